/- BkO -/
import Derived.Test.YtegdihpnefoolaaTiBkL
open Go Go.RowKit
namespace Go.Proofs.Ytegdihpnefoolaa
theorem boot_pages {s t : FS} {N : Nat} (h : t.pages = s.pages) : bootS N t = bootS N s := by
  have hb : ∀ i, bankB t i = bankB s i := fun i => by unfold bankB; rw [h]
  unfold bootS
  rw [bestS_pages h, hb]
theorem inst_other {s : FS} (ok : s.ok 96) {B : BSt × List UInt8 × Nat} (boot : bootS 96 s = B) (h0 : B.2.2 = 0) (hb : B.1.bank = 0) (nm img : List UInt8) (cnt : Int) (mind : List UInt8) : ∀ j, 80 ≤ j → j < 88 → (instS 96 s nm img cnt mind).2.page j = s.page j := by
  intro j h1 h2
  have hnb : nextBank 96 s = 1 := by rw [nextBank, boot, if_pos h0, hb]
  unfold instS
  split
  · rfl
  · split
    · rfl
    · rename_i hd
      split
      · rfl
      · rename_i hl
        split
        · rfl
        · split
          · rfl
          · split
            · rfl
            · have hm : manyC img.length ≤ 8 := by unfold manyC; omega
              have hc := (lay_cut (N := 96) (s := s) (first := 80 + nextBank 96 s * 8) (b := img) ok (by simpa using hd) (by rw [hnb]; omega)).1 j (by omega) (by rw [hnb]; omega)
              have okL := layS_ok (80 + nextBank 96 s * 8) img ok
              split
              · exact hc
              · rw [save_out _ okL j h1 (by omega)]
                exact hc
theorem instS_ok {s : FS} (ok : s.ok 96) (nm img : List UInt8) (cnt : Int) (mind : List UInt8) : (instS 96 s nm img cnt mind).2.ok 96 := by
  unfold instS
  split
  · exact ok
  · split
    · exact ok
    · split
      · exact ok
      · split
        · exact ok
        · split
          · exact ok
          · split
            · exact ok
            · split
              · exact layS_ok _ _ ok
              · exact saveN_ok _ (layS_ok _ _ ok)
/-- a text in a row -/
structure StrC where
  s : ByteArray
instance : RowC StrC := ⟨1, fun a => [.string a.s], fun _ => rfl, fun a u hu => by
  simp only [List.mem_cons, List.not_mem_nil, or_false] at hu
  rcases hu with rfl
  rfl, ⟨⟨#[]⟩⟩⟩
instance strElem : ElemT Try.prog 68 9 1 16 (.string ⟨#[]⟩) := ⟨⟨Try.underlying68, by kernel_rfl, rfl, by decide⟩⟩
theorem run_str1 (s : ByteArray) (w : World) : (Instr.buildSlice 68 1 #[(0, .string s)]).run Try.prog w = .ok (.slice (some ⟨w.heap.size, 0, none⟩) 1 1) (w.alloc (.cells #[.string s] 9)) := by kernel_rfl
/-- the pages that were read, as texts -/
def pagesT (s : FS) (k : Nat) : List StrC := (List.range k).map fun j => ⟨strL (s.page (80 + j))⟩
theorem pagesT_succ (s : FS) (k : Nat) : pagesT s k ++ [⟨strL (s.page (80 + k))⟩] = pagesT s (k + 1) := by
  unfold pagesT
  rw [List.range_succ, List.map_append]
  rfl
theorem cellsOf_str (l : List StrC) : cellsOf l = l.map fun a => .string a.s := by
  unfold cellsOf
  induction l with
  | nil => rfl
  | cons a l ih => rw [List.flatMap_cons, ih]; rfl
theorem pagesT_get (s : FS) {k n : Nat} (h : k < n) : (cellsOf (pagesT s n))[k]? = some (.string (strL (s.page (80 + k)))) := by
  rw [cellsOf_str]
  simp [pagesT, h]
theorem pagesT_len (s : FS) (n : Nat) : (cellsOf (pagesT s n)).length = n := by
  rw [cellsOf_str]
  simp [pagesT]
theorem str_hr {w : World} {z : Nat} {t : TypeId} {s : ByteArray} (h : HB w z t #[.string s]) : HR w (some ⟨z, 0, none⟩) (cellsOf [(⟨s⟩ : StrC)]) := ⟨h.rdL⟩
set_option maxRecDepth 100000 in
set_option maxHeartbeats 3200000 in
theorem bankOther_calls {A Z : Option Addr} {n c m d : Nat} {a b : List UInt8} (kk t : Int) {w : World} [hA : HR w A (bs a)] (hl : a.length = n) (hc : n ≤ c) (hn9 : n ≤ 9223372036854775807) [hZ : HR w Z (bs b)] (hm : b.length = m) (hd : m ≤ d) (hm9 : m ≤ 9223372036854775807) :
    Calls Try.prog 8 #[.slice A n c, .slice Z m d, .int .i64 kk, .int .i64 t] w fun e w' => e = .returned (.bool true) ∧ Chg nowhere w w' := by
  have HL := Lib.hid hl
  have HM := Lib.hid hm
  have HA0 := Lib.hid hA.out
  have HZ0 := Lib.hid hZ.out
  have hnone : ∀ w, HR w none (bs []) := fun w => ⟨Rd.nil _ _⟩
  have hs0 := bkL_len 0 0 zeroH 0 ⟨#[]⟩ none 0 0
  clear hl hm
  by_cases c1 : 512 < n
  · have c1I : 512 < (n : Int) := by omega
    go_enter Try.func8, Try.ntmps8
    go_wp2_with (first | go_skip | ((with_reducible apply wpl_alloc); intro z wz _ _ _) | ((with_reducible apply wpl_loadrow); (exact rfl); infer_instance; infer_instance; (first | (with_reducible assumption) | (with_reducible exact H32.size _) | kernel_rfl)) | ((with_reducible apply wpl_loadcellN); (exact rfl); infer_instance; (exact rfl)) | ((with_reducible apply wpl_storerow); (exact rfl); (exact rfl); infer_instance; infer_instance; (first | (with_reducible assumption) | (with_reducible exact H32.size _) | kernel_rfl); (first | (with_reducible assumption) | (with_reducible exact H32.size _) | kernel_rfl); (first | (with_reducible exact u8s_one _) | (with_reducible assumption) | kernel_rfl); intro ws _ _) | ((with_reducible apply wpl_storecell); (exact rfl); (exact rfl); infer_instance; (exact rfl); (first | (with_reducible assumption) | omega | (focus (simp; done)) | (focus (simp; omega; done)) | decide); intro ws _ _))
    go_ret
    exact ⟨rfl, (stepN (w0 := w)).chg⟩
  have c1I : ¬ 512 < (n : Int) := by omega
  by_cases c2 : 512 < m
  · have c2I : 512 < (m : Int) := by omega
    go_enter Try.func8, Try.ntmps8
    go_wp2_with (first | go_skip | ((with_reducible apply wpl_alloc); intro z wz _ _ _) | ((with_reducible apply wpl_loadrow); (exact rfl); infer_instance; infer_instance; (first | (with_reducible assumption) | (with_reducible exact H32.size _) | kernel_rfl)) | ((with_reducible apply wpl_loadcellN); (exact rfl); infer_instance; (exact rfl)) | ((with_reducible apply wpl_storerow); (exact rfl); (exact rfl); infer_instance; infer_instance; (first | (with_reducible assumption) | (with_reducible exact H32.size _) | kernel_rfl); (first | (with_reducible assumption) | (with_reducible exact H32.size _) | kernel_rfl); (first | (with_reducible exact u8s_one _) | (with_reducible assumption) | kernel_rfl); intro ws _ _) | ((with_reducible apply wpl_storecell); (exact rfl); (exact rfl); infer_instance; (exact rfl); (first | (with_reducible assumption) | omega | (focus (simp; done)) | (focus (simp; omega; done)) | decide); intro ws _ _))
    go_ret
    exact ⟨rfl, (stepN (w0 := w)).chg⟩
  have c2I : ¬ 512 < (m : Int) := by omega
  by_cases c3 : kk < 0
  · go_enter Try.func8, Try.ntmps8
    go_wp2_with (first | go_skip | ((with_reducible apply wpl_alloc); intro z wz _ _ _) | ((with_reducible apply wpl_loadrow); (exact rfl); infer_instance; infer_instance; (first | (with_reducible assumption) | (with_reducible exact H32.size _) | kernel_rfl)) | ((with_reducible apply wpl_loadcellN); (exact rfl); infer_instance; (exact rfl)) | ((with_reducible apply wpl_storerow); (exact rfl); (exact rfl); infer_instance; infer_instance; (first | (with_reducible assumption) | (with_reducible exact H32.size _) | kernel_rfl); (first | (with_reducible assumption) | (with_reducible exact H32.size _) | kernel_rfl); (first | (with_reducible exact u8s_one _) | (with_reducible assumption) | kernel_rfl); intro ws _ _) | ((with_reducible apply wpl_storecell); (exact rfl); (exact rfl); infer_instance; (exact rfl); (first | (with_reducible assumption) | omega | (focus (simp; done)) | (focus (simp; omega; done)) | decide); intro ws _ _))
    go_ret
    exact ⟨rfl, (stepN (w0 := w)).chg⟩
  by_cases c4 : 60 < kk
  · go_enter Try.func8, Try.ntmps8
    go_wp2_with (first | go_skip | ((with_reducible apply wpl_alloc); intro z wz _ _ _) | ((with_reducible apply wpl_loadrow); (exact rfl); infer_instance; infer_instance; (first | (with_reducible assumption) | (with_reducible exact H32.size _) | kernel_rfl)) | ((with_reducible apply wpl_loadcellN); (exact rfl); infer_instance; (exact rfl)) | ((with_reducible apply wpl_storerow); (exact rfl); (exact rfl); infer_instance; infer_instance; (first | (with_reducible assumption) | (with_reducible exact H32.size _) | kernel_rfl); (first | (with_reducible assumption) | (with_reducible exact H32.size _) | kernel_rfl); (first | (with_reducible exact u8s_one _) | (with_reducible assumption) | kernel_rfl); intro ws _ _) | ((with_reducible apply wpl_storecell); (exact rfl); (exact rfl); infer_instance; (exact rfl); (first | (with_reducible assumption) | omega | (focus (simp; done)) | (focus (simp; omega; done)) | decide); intro ws _ _))
    go_ret
    exact ⟨rfl, (stepN (w0 := w)).chg⟩
  go_enter Try.func8, Try.ntmps8
  go_wp2_with (first | go_skip | ((with_reducible apply wpl_alloc); intro z wz _ _ _) | ((with_reducible apply wpl_loadrow); (exact rfl); infer_instance; infer_instance; (first | (with_reducible assumption) | (with_reducible exact H32.size _) | kernel_rfl)) | ((with_reducible apply wpl_loadcellN); (exact rfl); infer_instance; (exact rfl)) | ((with_reducible apply wpl_storerow); (exact rfl); (exact rfl); infer_instance; infer_instance; (first | (with_reducible assumption) | (with_reducible exact H32.size _) | kernel_rfl); (first | (with_reducible assumption) | (with_reducible exact H32.size _) | kernel_rfl); (first | (with_reducible exact u8s_one _) | (with_reducible assumption) | kernel_rfl); intro ws _ _) | ((with_reducible apply wpl_storecell); (exact rfl); (exact rfl); infer_instance; (exact rfl); (first | (with_reducible assumption) | omega | (focus (simp; done)) | (focus (simp; omega; done)) | decide); intro ws _ _))
  refine (bkPages_calls _).mono ?_
  rintro e w1 ⟨rfl, hw1⟩
  obtain rfl := hw1.symm
  go_wp2_with (first | go_skip | ((with_reducible apply wpl_alloc); intro z wz _ _ _) | ((with_reducible apply wpl_loadrow); (exact rfl); infer_instance; infer_instance; (first | (with_reducible assumption) | (with_reducible exact H32.size _) | kernel_rfl)) | ((with_reducible apply wpl_loadcellN); (exact rfl); infer_instance; (exact rfl)) | ((with_reducible apply wpl_storerow); (exact rfl); (exact rfl); infer_instance; infer_instance; (first | (with_reducible assumption) | (with_reducible exact H32.size _) | kernel_rfl); (first | (with_reducible assumption) | (with_reducible exact H32.size _) | kernel_rfl); (first | (with_reducible exact u8s_one _) | (with_reducible assumption) | kernel_rfl); intro ws _ _) | ((with_reducible apply wpl_storecell); (exact rfl); (exact rfl); infer_instance; (exact rfl); (first | (with_reducible assumption) | omega | (focus (simp; done)) | (focus (simp; omega; done)) | decide); intro ws _ _))
  refine (bkNew_calls _).mono ?_
  rintro e w1 ⟨g, p, rfl, h1, _, hg, hp⟩
  have ab := above_two hg hp
  have oA : OffR (Two g p) A (bs a) := ⟨fun hne ad e h => by
    have h1 := rd_lt HA0.out hne e
    have h2 := ab.out _ h
    omega⟩
  have oZ : OffR (Two g p) Z (bs b) := ⟨fun hne ad e h => by
    have h1 := rd_lt HZ0.out hne e
    have h2 := ab.out _ h
    omega⟩
  have hA1 : HR w1 A (bs a) := inferInstance
  have hn1 := hnone w1
  go_wp2_with (first | go_skip | ((with_reducible apply (wpl_guard (op := .call _))); (exact rfl)) | ((with_reducible apply wpl_alloc); intro z wz _ _ _) | ((with_reducible apply wpl_loadrow); (exact rfl); infer_instance; infer_instance; (first | (with_reducible assumption) | (with_reducible exact H32.size _) | kernel_rfl)) | ((with_reducible apply wpl_loadcellN); (exact rfl); infer_instance; (exact rfl)) | ((with_reducible apply wpl_storerow); (exact rfl); (exact rfl); infer_instance; infer_instance; (first | (with_reducible assumption) | (with_reducible exact H32.size _) | kernel_rfl); (first | (with_reducible assumption) | (with_reducible exact H32.size _) | kernel_rfl); (first | (with_reducible exact u8s_one _) | (with_reducible assumption) | kernel_rfl); intro ws _ _) | ((with_reducible apply wpl_storecell); (exact rfl); (exact rfl); infer_instance; (exact rfl); (first | (with_reducible assumption) | omega | (focus (simp; done)) | (focus (simp; omega; done)) | decide); intro ws _ _))
  refine (bkInst_calls h1.out (by decide) [102] 0 (.inl rfl) (by decide) (by decide) (img := a) (mind := []) HL.out hc (by omega) oA.out rfl (by decide) (apart_none _ _) (by decide)).mono ?_
  obtain ⟨D, hD⟩ : ∃ D : BSt, D = ⟨if (bkZero, ([] : List UInt8), 9).2.2 = 0 then 1 - bkZero.bank else 0, a.length, ⟨sha a, sha_len _⟩, (0 : Int).toNat, [102], []⟩ := ⟨_, rfl⟩
  have HDB : Hid (D.bank = 0) := Lib.hid (by rw [hD]; rfl)
  have HD := Lib.hid hD
  clear hD
  rintro e w2 ⟨rfl, h2, _⟩
  have H2 : Hid (BankAt w2 g p 1 (D, a, 0)) := Lib.hid (by rw [HD.out]; exact h2.out)
  have n2 : Nw w w2 := inferInstance
  have hbk : ((D.bank : Int) != 0) = false := by simp [HDB.out]
  clear h2 h1 HD
  go_wp2_with (first | go_skip | ((with_reducible apply wpl_alloc); intro z wz _ _ _) | ((with_reducible apply wpl_loadrow); (exact rfl); infer_instance; infer_instance; (first | (with_reducible assumption) | (with_reducible exact H32.size _) | kernel_rfl)) | ((with_reducible apply wpl_loadcellN); (exact rfl); infer_instance; (exact rfl)) | ((with_reducible apply wpl_storerow); (exact rfl); (exact rfl); infer_instance; infer_instance; (first | (with_reducible assumption) | (with_reducible exact H32.size _) | kernel_rfl); (first | (with_reducible assumption) | (with_reducible exact H32.size _) | kernel_rfl); (first | (with_reducible exact u8s_one _) | (with_reducible assumption) | kernel_rfl); intro ws _ _) | ((with_reducible apply wpl_storecell); (exact rfl); (exact rfl); infer_instance; (exact rfl); (first | (with_reducible assumption) | omega | (focus (simp; done)) | (focus (simp; omega; done)) | decide); intro ws _ _))
  refine (bkBootAt_calls H2.out).mono ?_
  rintro e w3 ⟨M, mm, dd, I, ni, ci, rfl, _, _, _, _, _, _, _⟩
  have hq := bkL_len D.bank D.size D.sum D.cnt (strL D.name) M mm dd
  have ho := bkL_one D.bank D.size D.sum D.cnt (strL D.name) M mm dd
  obtain ⟨s, hFs, hSs⟩ := H2.out.ex
  have HF3 : Hid (FlashAt w3 g p 96 s) := Lib.hid (hFs.calm (stepN (w0 := w2) (w := w3)).chg)
  have HS := Lib.hid hSs
  clear hFs hSs H2
  go_wp2_with (first | go_skip | ((with_reducible apply wpl_storerow); (exact rfl); (exact rfl); infer_instance; infer_instance; (exact hq); (exact hs0); (exact ho); intro wq _ hbq) | ((with_reducible apply (wpl_loadcell (k := 0))); (exact rfl); (exact hbq); (exact bk_get0 _ _ _ _ _ _ _ _)) | ((with_reducible apply (wpl_alloc (dst := some 10))); intro zq wzq _ _ _) | ((with_reducible apply wpl_alloc); intro z wz _ _ _) | ((with_reducible apply wpl_loadrow); (exact rfl); infer_instance; infer_instance; (first | (with_reducible assumption) | (with_reducible exact H32.size _) | kernel_rfl)) | ((with_reducible apply wpl_loadcellN); (exact rfl); infer_instance; (exact rfl)) | ((with_reducible apply wpl_storerow); (exact rfl); (exact rfl); infer_instance; infer_instance; (first | (with_reducible assumption) | (with_reducible exact H32.size _) | kernel_rfl); (first | (with_reducible assumption) | (with_reducible exact H32.size _) | kernel_rfl); (first | (with_reducible exact u8s_one _) | (with_reducible assumption) | kernel_rfl); intro ws _ _) | ((with_reducible apply wpl_storecell); (exact rfl); (exact rfl); infer_instance; (exact rfl); (first | (with_reducible assumption) | omega | (focus (simp; done)) | (focus (simp; omega; done)) | decide); intro ws _ _))
  have nq : Nw w wq := inferInstance
  have HFq : Hid (FlashAt wq g p 96 s) := Lib.hid (HF3.out.calm (stepN (w0 := w3) (w := wq)).chg)
  have hlq := HFq.out.lts
  have OK := Lib.hid HS.out.ok
  clear HF3 hbk
  go_loopw [13, 14] (fun av iv wr => ∃ (k : Nat) (L : Option Addr) (cL : Nat), k ≤ 8 ∧ iv = .int .i64 (k : Int) ∧ av = .slice L k cL ∧ Step nowhere wq wr ∧ HO wr 9 1 L k cL (cellsOf (pagesT s k)) ∧ NewA wq L) (fun _ iv _ => 8 - (intOf iv).toNat)
  case atStart => exact ⟨0, none, 0, Nat.zero_le _, rfl, rfl, stepN, ⟨Own.nil _ _ _⟩, ⟨fun ad e => by cases e⟩⟩
  case round =>
    obtain ⟨k, L, cL, hk, rfl, rfl, _, hL, hnL⟩ := hrel
    have nr0 : Nw wq wr := inferInstance
    by_cases hlt : k < 8
    · have hltI : (k : Int) < 8 := by omega
      have hj : 80 + k < 96 := by omega
      have HPL := Lib.hid (FS.page_len OK.out hj)
      go_wp2_with (first | go_skip | ((with_reducible apply wpl_alloc); intro z wz _ _ _) | ((with_reducible apply wpl_loadrow); (exact rfl); infer_instance; infer_instance; (first | (with_reducible assumption) | (with_reducible exact H32.size _) | kernel_rfl)) | ((with_reducible apply wpl_loadcellN); (exact rfl); infer_instance; (exact rfl)) | ((with_reducible apply wpl_storerow); (exact rfl); (exact rfl); infer_instance; infer_instance; (first | (with_reducible assumption) | (with_reducible exact H32.size _) | kernel_rfl); (first | (with_reducible assumption) | (with_reducible exact H32.size _) | kernel_rfl); (first | (with_reducible exact u8s_one _) | (with_reducible assumption) | kernel_rfl); intro ws _ _) | ((with_reducible apply wpl_storecell); (exact rfl); (exact rfl); infer_instance; (exact rfl); (first | (with_reducible assumption) | omega | (focus (simp; done)) | (focus (simp; omega; done)) | decide); intro ws _ _))
      refine (Read_at g p 96 s _ (80 + k) _ (HFq.out.calm nr0.out) (by first | rfl | omega | go_num) hj).mono ?_
      obtain ⟨pg, hpg⟩ : ∃ pg, pg = s.page (80 + k) := ⟨_, rfl⟩
      have HPG := Lib.hid hpg
      rw [← hpg] at HPL ⊢
      clear hpg
      rintro e w5 ⟨R, rc, rfl, hR, _, hnR⟩
      have kbr := run_str1 (strL pg)
      have hk1 : k + 1 ≤ 1000000000 := by omega
      have hpl : pg.length = 64 := HPL.out
      have n5 : Nw wq w5 := inferInstance
      have hL5 : HO w5 9 1 L k cL (cellsOf (pagesT s k)) := inferInstance
      go_wp2_with (first | go_skip | ((with_reducible apply wpl_conv); (exact rfl); (exact ⟨hR.out.rd⟩); (exact hpl); (exact Try.underlying22); (exact Try.underlying5); (exact Try.underlying9)) | ((with_reducible apply (stop_dst (dst := some 69))); (try simp only [Act.put, sA, sB, sC]); ((with_reducible apply (wpl_bslice (dst := some 69))); (exact kbr _); intro zr wb _ _ _)) | ((with_reducible apply (wpl_appendR (α := StrC))); (exact rfl); (exact rfl); infer_instance; infer_instance; (exact str_hr (inferInstance : HB wb zr 9 #[.string (strL pg)])); (exact rfl); (exact rfl); (exact hk1); (decide); (decide); intro L2 cL2 wa _ hO2 _ hcap2) | ((with_reducible apply wpl_alloc); intro z wz _ _ _) | ((with_reducible apply wpl_loadrow); (exact rfl); infer_instance; infer_instance; (first | (with_reducible assumption) | (with_reducible exact H32.size _) | kernel_rfl)) | ((with_reducible apply wpl_loadcellN); (exact rfl); infer_instance; (exact rfl)) | ((with_reducible apply wpl_storerow); (exact rfl); (exact rfl); infer_instance; infer_instance; (first | (with_reducible assumption) | (with_reducible exact H32.size _) | kernel_rfl); (first | (with_reducible assumption) | (with_reducible exact H32.size _) | kernel_rfl); (first | (with_reducible exact u8s_one _) | (with_reducible assumption) | kernel_rfl); intro ws _ _) | ((with_reducible apply wpl_storecell); (exact rfl); (exact rfl); infer_instance; (exact rfl); (first | (with_reducible assumption) | omega | (focus (simp; done)) | (focus (simp; omega; done)) | decide); intro ws _ _))
      have e1 : pagesT s k ++ [⟨strL pg⟩] = pagesT s (k + 1) := by rw [HPG.out]; exact pagesT_succ s k
      rw [e1] at hO2
      clear e1
      exact ⟨⟨k + 1, L2, cL2, by omega, by go_num, rfl, stepN, hO2, inferInstance⟩, by simp [intOf]; omega⟩
    · have hltI : ¬ (k : Int) < 8 := by omega
      obtain rfl : k = 8 := by omega
      have HFr : Hid (FlashAt wr g p 96 s) := Lib.hid (HFq.out.calm nr0.out)
      have oL : OffR (Two g p) L (cellsOf (pagesT s 8)) := ⟨fun hne ad e h => by
        have h1 := hnL.out ad e
        rcases h with h | h <;> omega⟩
      have hLr : HR wr L (cellsOf (pagesT s 8)) := ⟨hL.out.rd⟩
      have nr : Nw w wr := inferInstance
      go_wp2_with (first | go_skip | ((with_reducible apply wpl_alloc); intro z wz _ _ _) | ((with_reducible apply wpl_loadrow); (exact rfl); infer_instance; infer_instance; (first | (with_reducible assumption) | (with_reducible exact H32.size _) | kernel_rfl)) | ((with_reducible apply wpl_loadcellN); (exact rfl); infer_instance; (exact rfl)) | ((with_reducible apply wpl_storerow); (exact rfl); (exact rfl); infer_instance; infer_instance; (first | (with_reducible assumption) | (with_reducible exact H32.size _) | kernel_rfl); (first | (with_reducible assumption) | (with_reducible exact H32.size _) | kernel_rfl); (first | (with_reducible exact u8s_one _) | (with_reducible assumption) | kernel_rfl); intro ws _ _) | ((with_reducible apply wpl_storecell); (exact rfl); (exact rfl); infer_instance; (exact rfl); (first | (with_reducible assumption) | omega | (focus (simp; done)) | (focus (simp; omega; done)) | decide); intro ws _ _))
      refine (Fuse_calls g p 96 s kk t _ HFr.out (by omega)).mono ?_
      obtain ⟨s2, hs2⟩ : ∃ s2, s2 = ({ s with fused := decide (0 ≤ kk), left := kk, tear := (min (max t 0) 64).toNat } : FS) := ⟨_, rfl⟩
      have hb2 : bootS 96 s2 = (D, a, 0) := by rw [boot_pages (s := s) (by rw [hs2])]; exact HS.out.boot
      have hp2 : ∀ j, s2.page j = s.page j := fun j => by rw [hs2]; rfl
      rw [← hs2]
      have HB2 := Lib.hid hb2
      have HP2 := Lib.hid hp2
      clear hs2 hb2 hp2
      rintro e w6 ⟨rfl, h6, c6⟩
      have st6 : Step (Two g p) _ w6 := ⟨c6.out⟩
      have n6 : Nw w w6 := inferInstance
      have hZ6 : HR w6 Z (bs b) := ⟨HZ0.out.later n6.out⟩
      have hL6 : HR w6 L (cellsOf (pagesT s 8)) := inferInstance
      have hn6 := hnone w6
      have HF6 := h6
      have OK2 := Lib.hid h6.out.ok
      clear c6 h6
      go_wp2_with (first | go_skip | ((with_reducible apply wpl_alloc); intro z wz _ _ _) | ((with_reducible apply wpl_loadrow); (exact rfl); infer_instance; infer_instance; (first | (with_reducible assumption) | (with_reducible exact H32.size _) | kernel_rfl)) | ((with_reducible apply wpl_loadcellN); (exact rfl); infer_instance; (exact rfl)) | ((with_reducible apply wpl_storerow); (exact rfl); (exact rfl); infer_instance; infer_instance; (first | (with_reducible assumption) | (with_reducible exact H32.size _) | kernel_rfl); (first | (with_reducible assumption) | (with_reducible exact H32.size _) | kernel_rfl); (first | (with_reducible exact u8s_one _) | (with_reducible assumption) | kernel_rfl); intro ws _ _) | ((with_reducible apply wpl_storecell); (exact rfl); (exact rfl); infer_instance; (exact rfl); (first | (with_reducible assumption) | omega | (focus (simp; done)) | (focus (simp; omega; done)) | decide); intro ws _ _))
      refine (bkInstall_calls (nm := [103]) (img := b) (mind := []) HF6.out 1 HM.out hd hm9 oZ.out rfl (by decide) (apart_none _ _) (by decide)).mono ?_
      obtain ⟨q, hq⟩ : ∃ q, q = instS 96 s2 [103] b 1 [] := ⟨_, rfl⟩
      have hpq : ∀ j, 80 ≤ j → j < 88 → q.2.page j = s.page j := fun j h1 h2 => by
        rw [hq, inst_other OK2.out HB2.out rfl HDB.out _ _ _ _ j h1 h2]
        exact HP2.out j
      have okq : q.2.ok 96 := by rw [hq]; exact instS_ok OK2.out _ _ _ _
      rw [← hq]
      have HPQ := Lib.hid hpq
      have OKQ := Lib.hid okq
      clear hq hpq okq
      rintro e w7 ⟨rfl, HF7, st7⟩
      have hL7 : HR w7 L (cellsOf (pagesT s 8)) := inferInstance
      have n7 : Nw w w7 := inferInstance
      go_wp2_with (first | go_skip | ((with_reducible apply wpl_alloc); intro z wz _ _ _) | ((with_reducible apply wpl_loadrow); (exact rfl); infer_instance; infer_instance; (first | (with_reducible assumption) | (with_reducible exact H32.size _) | kernel_rfl)) | ((with_reducible apply wpl_loadcellN); (exact rfl); infer_instance; (exact rfl)) | ((with_reducible apply wpl_storerow); (exact rfl); (exact rfl); infer_instance; infer_instance; (first | (with_reducible assumption) | (with_reducible exact H32.size _) | kernel_rfl); (first | (with_reducible assumption) | (with_reducible exact H32.size _) | kernel_rfl); (first | (with_reducible exact u8s_one _) | (with_reducible assumption) | kernel_rfl); intro ws _ _) | ((with_reducible apply wpl_storecell); (exact rfl); (exact rfl); infer_instance; (exact rfl); (first | (with_reducible assumption) | omega | (focus (simp; done)) | (focus (simp; omega; done)) | decide); intro ws _ _))
      go_loopw [17] (fun iv wt => ∃ k : Nat, k ≤ 8 ∧ iv = .int .i64 (k : Int) ∧ Step nowhere w7 wt ∧ Nw w wt) (fun iv _ => 8 - (intOf iv).toNat)
      case atStart => exact ⟨0, Nat.zero_le _, rfl, stepN, inferInstance⟩
      case round =>
        obtain ⟨k, hk, rfl, st, nt⟩ := hrel
        by_cases hlt : k < 8
        · have hltI : (k : Int) < 8 := by omega
          have hj : 80 + k < 96 := by omega
          have HPL := Lib.hid (FS.page_len OKQ.out hj)
          have hpe := HPQ.out (80 + k) (by omega) (by omega)
          have hrow := pagesT_get s hlt
          have hl0 : 0 < (cellsOf (pagesT s 8)).length := by rw [pagesT_len]; decide
          have HROW := Lib.hid hrow
          have HPE := Lib.hid hpe
          clear hpe hrow
          go_wp2_with (first | go_skip | ((with_reducible apply wpl_alloc); intro z wz _ _ _) | ((with_reducible apply wpl_loadrow); (exact rfl); infer_instance; infer_instance; (first | (with_reducible assumption) | (with_reducible exact H32.size _) | kernel_rfl)) | ((with_reducible apply wpl_loadcellN); (exact rfl); infer_instance; (exact rfl)) | ((with_reducible apply wpl_storerow); (exact rfl); (exact rfl); infer_instance; infer_instance; (first | (with_reducible assumption) | (with_reducible exact H32.size _) | kernel_rfl); (first | (with_reducible assumption) | (with_reducible exact H32.size _) | kernel_rfl); (first | (with_reducible exact u8s_one _) | (with_reducible assumption) | kernel_rfl); intro ws _ _) | ((with_reducible apply wpl_storecell); (exact rfl); (exact rfl); infer_instance; (exact rfl); (first | (with_reducible assumption) | omega | (focus (simp; done)) | (focus (simp; omega; done)) | decide); intro ws _ _))
          refine (Read_at g p 96 q.2 _ (80 + k) _ (HF7.out.calm st.chg) (by first | rfl | omega | go_num) hj).mono ?_
          rw [HPE.out] at HPL ⊢
          obtain ⟨pg, hpg⟩ : ∃ pg, pg = s.page (80 + k) := ⟨_, rfl⟩
          rw [← hpg] at HPL HROW ⊢
          clear hpg HPE
          rintro e w8 ⟨R, rc, rfl, hR, _, hnR⟩
          have hpl : pg.length = 64 := HPL.out
          have n8 : Nw w w8 := inferInstance
          have hL8 : HR w8 L (cellsOf (pagesT s 8)) := ⟨hL7.out.later ((st.chg.trans (inferInstance : Step nowhere wr w8).chg (fun _ _ h => h)))⟩
          have hrR : HR w8 R (bs pg) := ⟨hR.out.rd⟩
          have HSE : Hid (((strL pg).toList == (strL pg).toList) = true) := Lib.hid (by simp)
          have st8 : Step nowhere w7 w8 := ⟨st.chg.trans (inferInstance : Step nowhere wr w8).chg (fun _ _ h => h)⟩
          go_wp2_with (first | go_skip | ((with_reducible apply wpl_alloc); intro z wz _ _ _) | ((with_reducible apply wpl_loadrow); (exact rfl); infer_instance; infer_instance; (first | (with_reducible assumption) | (with_reducible exact H32.size _) | kernel_rfl)) | ((with_reducible apply wpl_loadcellN); (exact rfl); infer_instance; (exact rfl)) | ((with_reducible apply wpl_storerow); (exact rfl); (exact rfl); infer_instance; infer_instance; (first | (with_reducible assumption) | (with_reducible exact H32.size _) | kernel_rfl); (first | (with_reducible assumption) | (with_reducible exact H32.size _) | kernel_rfl); (first | (with_reducible exact u8s_one _) | (with_reducible assumption) | kernel_rfl); intro ws _ _) | ((with_reducible apply wpl_storecell); (exact rfl); (exact rfl); infer_instance; (exact rfl); (first | (with_reducible assumption) | omega | (focus (simp; done)) | (focus (simp; omega; done)) | decide); intro ws _ _))
          refine wp_region_N (nowhere) (by kernel_rfl) (fun wd _ _ => ?_)
          refine' takeH (i := 0) (v := _) rfl (by kernel_rfl) (by kernel_rfl) (by kernel_rfl) (fun _ _ _ h => h) (yields_of (by rfl) (fun w' _ => ?_)) inferInstance ?_
          rotate_left
          · (go_simp; try with_reducible rfl)
          try simp only [Act.put, sA]; try simp only [sB, sC]
          refine' takeH (i := 1) (v := _) rfl (by kernel_rfl) (by kernel_rfl) (by kernel_rfl) (fun _ _ _ h => h) (yields_of (by rfl) (fun w' _ => ?_)) inferInstance ?_
          rotate_left
          · (first | ((with_reducible apply ev_conv); (exact rfl); infer_instance; (first | (with_reducible assumption) | (focus (simp; done)) | omega); (exact Try.underlying22); (exact Try.underlying5); (exact Try.underlying9)) | (go_simp; try with_reducible rfl))
          try simp only [Act.put, sA]; try simp only [sB, sC]
          refine' takeH (i := 2) (v := _) rfl (by kernel_rfl) (by kernel_rfl) (by kernel_rfl) (fun _ _ _ h => h) (yields_of (by rfl) (fun w' _ => ?_)) inferInstance ?_
          rotate_left
          · (go_simp; try with_reducible rfl)
          try simp only [Act.put, sA]; try simp only [sB, sC]
          refine' takeH (i := 3) (v := _) rfl (by kernel_rfl) (by kernel_rfl) (by kernel_rfl) (fun _ _ _ h => h) (yields_of (by rfl) (fun w' _ => ?_)) inferInstance ?_
          rotate_left
          · (go_simp; try with_reducible rfl)
          try simp only [Act.put, sA]; try simp only [sB, sC]
          refine' takeH (i := 4) (v := _) rfl (by kernel_rfl) (by kernel_rfl) (by kernel_rfl) (fun _ _ _ h => h) (yields_of (by rfl) (fun w' _ => ?_)) inferInstance ?_
          rotate_left
          · (first | ((with_reducible apply (ev_index1 (k := k))); (exact rfl); (exact rfl); infer_instance; infer_instance; (exact hl0); (exact hlt)))
          try simp only [Act.put, sA]; try simp only [sB, sC]
          refine' takeH (i := 5) (v := _) rfl (by kernel_rfl) (by kernel_rfl) (by kernel_rfl) (fun _ _ _ h => h) (yields_of (by rfl) (fun w' _ => ?_)) inferInstance ?_
          rotate_left
          · (first | ((with_reducible apply (ev_load1 (k := k))); (exact rfl); infer_instance; infer_instance; (exact HROW.out)))
          try simp only [Act.put, sA]; try simp only [sB, sC]
          refine' takeH (i := 6) (v := _) rfl (by kernel_rfl) (by kernel_rfl) (by kernel_rfl) (fun _ _ _ h => h) (yields_of (by rfl) (fun w' _ => ?_)) inferInstance ?_
          rotate_left
          · (go_simp; try with_reducible rfl)
          try simp only [Act.put, sA]; try simp only [sB, sC]
          try simp only [HSE.out]
          refine wpAnyH_done (by kernel_rfl) ?_ _
          go_wp2_with (first | go_skip | ((with_reducible apply wpl_alloc); intro z wz _ _ _) | ((with_reducible apply wpl_loadrow); (exact rfl); infer_instance; infer_instance; (first | (with_reducible assumption) | (with_reducible exact H32.size _) | kernel_rfl)) | ((with_reducible apply wpl_loadcellN); (exact rfl); infer_instance; (exact rfl)) | ((with_reducible apply wpl_storerow); (exact rfl); (exact rfl); infer_instance; infer_instance; (first | (with_reducible assumption) | (with_reducible exact H32.size _) | kernel_rfl); (first | (with_reducible assumption) | (with_reducible exact H32.size _) | kernel_rfl); (first | (with_reducible exact u8s_one _) | (with_reducible assumption) | kernel_rfl); intro ws _ _) | ((with_reducible apply wpl_storecell); (exact rfl); (exact rfl); infer_instance; (exact rfl); (first | (with_reducible assumption) | omega | (focus (simp; done)) | (focus (simp; omega; done)) | decide); intro ws _ _))
          exact ⟨⟨k + 1, by omega, by go_num, ⟨st8.chg.trans (stepN (w0 := w8)).chg (fun _ _ h => h)⟩, inferInstance⟩, by simp [intOf]; omega⟩
        · have hltI : ¬ (k : Int) < 8 := by omega
          go_wp2_with (first | go_skip | ((with_reducible apply wpl_alloc); intro z wz _ _ _) | ((with_reducible apply wpl_loadrow); (exact rfl); infer_instance; infer_instance; (first | (with_reducible assumption) | (with_reducible exact H32.size _) | kernel_rfl)) | ((with_reducible apply wpl_loadcellN); (exact rfl); infer_instance; (exact rfl)) | ((with_reducible apply wpl_storerow); (exact rfl); (exact rfl); infer_instance; infer_instance; (first | (with_reducible assumption) | (with_reducible exact H32.size _) | kernel_rfl); (first | (with_reducible assumption) | (with_reducible exact H32.size _) | kernel_rfl); (first | (with_reducible exact u8s_one _) | (with_reducible assumption) | kernel_rfl); intro ws _ _) | ((with_reducible apply wpl_storecell); (exact rfl); (exact rfl); infer_instance; (exact rfl); (first | (with_reducible assumption) | omega | (focus (simp; done)) | (focus (simp; omega; done)) | decide); intro ws _ _))
          refine (bkKnown_calls _).mono ?_
          rintro e w9 ⟨rfl, _⟩
          go_wp2_with (first | go_skip | ((with_reducible apply wpl_alloc); intro z wz _ _ _) | ((with_reducible apply wpl_loadrow); (exact rfl); infer_instance; infer_instance; (first | (with_reducible assumption) | (with_reducible exact H32.size _) | kernel_rfl)) | ((with_reducible apply wpl_loadcellN); (exact rfl); infer_instance; (exact rfl)) | ((with_reducible apply wpl_storerow); (exact rfl); (exact rfl); infer_instance; infer_instance; (first | (with_reducible assumption) | (with_reducible exact H32.size _) | kernel_rfl); (first | (with_reducible assumption) | (with_reducible exact H32.size _) | kernel_rfl); (first | (with_reducible exact u8s_one _) | (with_reducible assumption) | kernel_rfl); intro ws _ _) | ((with_reducible apply wpl_storecell); (exact rfl); (exact rfl); infer_instance; (exact rfl); (first | (with_reducible assumption) | omega | (focus (simp; done)) | (focus (simp; omega; done)) | decide); intro ws _ _))
          go_ret
          exact ⟨rfl, (inferInstance : Nw w _).out⟩
end Go.Proofs.Ytegdihpnefoolaa
