/- BkK, BkL -/
import Derived.Test.YtegdihpnefoolaaTjBkJ
import Derived.Test.YtegdihpnefoolaaTjSlN
import Derived.Test.YtegdihpnefoolaaTjDgRS
section
open Go Go.RowKit
namespace Go.Proofs.Ytegdihpnefoolaa
/-- a flash that lives, in memory -/
structure BankAt (w : World) (g p n : Nat) (B : BSt × List UInt8 × Nat) : Prop where
  ex : ∃ s, FlashAt w g p 96 s ∧ BankS s n B
theorem BankAt.calm {w w' : World} {g p n : Nat} {B : BSt × List UInt8 × Nat} (h : BankAt w g p n B) (c : Chg nowhere w w') : BankAt w' g p n B := by
  obtain ⟨s, h1, h2⟩ := h.ex
  exact ⟨s, h1.calm c, h2⟩
theorem BankAt.lts {w : World} {g p n : Nat} {B : BSt × List UInt8 × Nat} (h : BankAt w g p n B) : g < w.heap.size ∧ p < w.heap.size := by
  obtain ⟨s, h1, h2⟩ := h.ex
  exact h1.lts
section
variable {w : World} {g p k : Nat} {B : BSt × List UInt8 × Nat}
theorem bkNew_calls (w : World) : Calls Try.prog 11 #[.int .i64 96] w fun e w' => ∃ g p, e = .returned (.pointer (some ⟨g, 0, none⟩)) ∧ Hid (BankAt w' g p 0 (bkZero, [], 9)) ∧ Step nowhere w w' ∧ w.heap.size ≤ g ∧ w.heap.size ≤ p :=
  (New_calls 96 w (by decide) (by decide)).mono fun _ _ ⟨g, p, h1, h2, h3, h4, h5⟩ => ⟨g, p, h1, Lib.hid ⟨_, h2.out, bank_fresh⟩, ⟨h3.out⟩, h4, h5⟩
theorem bkInst_calls (h : BankAt w g p k B) (hk : k < 1073741824) {I M : Option Addr} {n c m d : Nat} {img mind : List UInt8} (nm : List UInt8) (cnt : Int) (hB : B.2.2 = 9 ∨ (B.2.2 = 0 ∧ (B.1.cnt : Int) ≤ cnt)) (h0 : 0 ≤ cnt) (h1 : cnt ≤ 1073741824) [hI : HR w I (bs img)] (hn : img.length = n) (hnc : n ≤ c) (hn5 : n ≤ 512) (hIa : Apart (Two g p) I (bs img)) [hM : HR w M (bs mind)] (hm : mind.length = m) (hm2 : m ≤ 2000) (hMa : Apart (Two g p) M (bs mind)) (hnm : nm.length ≤ 12) :
    Calls Try.prog 30 #[.pointer (some ⟨g, 0, none⟩), .string (strL nm), .slice I n c, .int .i64 cnt, .slice M m d] w fun e w' => e = .returned (.int .i64 0) ∧ Hid (BankAt w' g p (k + 1) (⟨if B.2.2 = 0 then 1 - B.1.bank else 0, img.length, ⟨sha img, sha_len _⟩, cnt.toNat, nm, mind⟩, img, 0)) ∧ Step (Two g p) w w' := by
  obtain ⟨s, f1, f2⟩ := h.ex
  obtain ⟨t, e1, e2⟩ := install_live f2 hk (nm := nm) (img := img) (mind := mind) (cnt := cnt) hB h0 h1 (by omega) hnm (by omega)
  refine (bkInstall_calls f1 cnt hn hnc (by omega) hIa hm (by omega) hMa (by omega)).mono ?_
  rw [e1]
  rintro e w' ⟨rfl, k1, k2⟩
  exact ⟨rfl, Lib.hid ⟨t, k1.out, e2⟩, k2⟩
theorem bkBootAt_calls {D : BSt} {img : List UInt8} (h : BankAt w g p k (D, img, 0)) :
    Calls Try.prog 34 #[.pointer (some ⟨g, 0, none⟩)] w fun e w' => ∃ M m d I n c, e = .returned (.tuple #[.agg (bkL D.bank D.size D.sum D.cnt (strL D.name) M m d).toArray, .slice I n c, .int .i64 0]) ∧ D.mind.length = m ∧ HR w' M (bs D.mind) ∧ NewA w M ∧ img.length = n ∧ HR w' I (bs img) ∧ NewA w I ∧ Step nowhere w w' := by
  obtain ⟨s, f1, f2⟩ := h.ex
  refine (bkBoot_calls f1).mono ?_
  rw [f2.boot]
  rintro e w' ⟨M, m, d, I, n, c, k1, k2, k3, k4, k5, k6, k7, k8, k9, k10⟩
  exact ⟨M, m, d, I, n, c, k1, k2, k4, k5, k6, k8, k9, k10⟩
end
theorem apart_none (S : Nat → Prop) (vs : List Value) : Apart S none vs := fun _ ad e => by cases e
theorem apart_new2 {g p z : Nat} {vs : List Value} (hg : g < z) (hp : p < z) : Apart (Two g p) (some (⟨z, 0, none⟩ : Addr)) vs := fun _ ad e h => by
  injection e with e
  subst e
  rcases h with h | h
  · have h' : z = g := h
    omega
  · have h' : z = p := h
    omega
set_option maxRecDepth 100000 in
set_option maxHeartbeats 1600000 in
theorem bkKnown_calls (w : World) : Calls Try.prog 37 #[] w fun e w' => e = .returned (.bool true) ∧ Step nowhere w w' := by
  have kba := run_byte1 97
  have kbb := run_byte1 98
  have he := strL_self [98]
  have hnone : ∀ w, HR w none (bs []) := fun w => ⟨Rd.nil _ _⟩
  have hs0 := bkL_len 0 0 zeroH 0 ⟨#[]⟩ none 0 0
  go_enter Try.func37, Try.ntmps37
  go_wp2_with (first | go_skip | ((with_reducible apply wpl_alloc); intro z wz _ _ _) | ((with_reducible apply (wpl_guard (op := .load _ _))); (exact rfl)) | ((with_reducible apply (wpl_guard (op := .fieldAddr _ _ _))); (exact rfl)) | ((with_reducible apply (wpl_guard (op := .convert _ _ _))); (exact rfl)) | ((with_reducible apply wpl_loadrow); (exact rfl); infer_instance; infer_instance; (first | (with_reducible assumption) | (with_reducible exact H32.size _) | kernel_rfl)) | ((with_reducible apply wpl_loadcellN); (exact rfl); infer_instance; (exact rfl)) | ((with_reducible apply wpl_storerow); (exact rfl); (exact rfl); infer_instance; infer_instance; (first | (with_reducible assumption) | (with_reducible exact H32.size _) | kernel_rfl); (first | (with_reducible assumption) | (with_reducible exact H32.size _) | kernel_rfl); (first | (with_reducible exact u8s_one _) | (with_reducible assumption) | kernel_rfl); intro ws _ _) | ((with_reducible apply wpl_storecell); (exact rfl); (exact rfl); infer_instance; (exact rfl); (first | (with_reducible assumption) | omega | (focus (simp; done)) | (focus (simp; omega; done)) | decide); intro ws _ _))
  refine (bkPages_calls _).mono ?_
  rintro e w1 ⟨rfl, hw1⟩
  obtain rfl := hw1.symm
  go_wp2_with (first | go_skip | ((with_reducible apply wpl_alloc); intro z wz _ _ _) | ((with_reducible apply (wpl_guard (op := .load _ _))); (exact rfl)) | ((with_reducible apply (wpl_guard (op := .fieldAddr _ _ _))); (exact rfl)) | ((with_reducible apply (wpl_guard (op := .convert _ _ _))); (exact rfl)) | ((with_reducible apply wpl_loadrow); (exact rfl); infer_instance; infer_instance; (first | (with_reducible assumption) | (with_reducible exact H32.size _) | kernel_rfl)) | ((with_reducible apply wpl_loadcellN); (exact rfl); infer_instance; (exact rfl)) | ((with_reducible apply wpl_storerow); (exact rfl); (exact rfl); infer_instance; infer_instance; (first | (with_reducible assumption) | (with_reducible exact H32.size _) | kernel_rfl); (first | (with_reducible assumption) | (with_reducible exact H32.size _) | kernel_rfl); (first | (with_reducible exact u8s_one _) | (with_reducible assumption) | kernel_rfl); intro ws _ _) | ((with_reducible apply wpl_storecell); (exact rfl); (exact rfl); infer_instance; (exact rfl); (first | (with_reducible assumption) | omega | (focus (simp; done)) | (focus (simp; omega; done)) | decide); intro ws _ _))
  refine (bkNew_calls _).mono ?_
  rintro e w1 ⟨g, p, rfl, h1, _, hg, hp⟩
  have ab := above_two hg hp
  have hl1 := h1.out.lts
  go_wp2_with (first | go_skip | ((with_reducible apply (wpl_lit (d1 := some 12))); (exact kba _); (exact fun _ => rfl); (exact Try.underlying22); (exact Try.underlying5); intro za wa _ _ _) | ((with_reducible apply wpl_alloc); intro z wz _ _ _) | ((with_reducible apply (wpl_guard (op := .load _ _))); (exact rfl)) | ((with_reducible apply (wpl_guard (op := .fieldAddr _ _ _))); (exact rfl)) | ((with_reducible apply (wpl_guard (op := .convert _ _ _))); (exact rfl)) | ((with_reducible apply wpl_loadrow); (exact rfl); infer_instance; infer_instance; (first | (with_reducible assumption) | (with_reducible exact H32.size _) | kernel_rfl)) | ((with_reducible apply wpl_loadcellN); (exact rfl); infer_instance; (exact rfl)) | ((with_reducible apply wpl_storerow); (exact rfl); (exact rfl); infer_instance; infer_instance; (first | (with_reducible assumption) | (with_reducible exact H32.size _) | kernel_rfl); (first | (with_reducible assumption) | (with_reducible exact H32.size _) | kernel_rfl); (first | (with_reducible exact u8s_one _) | (with_reducible assumption) | kernel_rfl); intro ws _ _) | ((with_reducible apply wpl_storecell); (exact rfl); (exact rfl); infer_instance; (exact rfl); (first | (with_reducible assumption) | omega | (focus (simp; done)) | (focus (simp; omega; done)) | decide); intro ws _ _))
  have hra : HR wa (some ⟨za, 0, none⟩) (bs [97]) := inferInstance
  have hza : g < za ∧ p < za := by
    have := (inferInstance : Born w1 za).eq
    omega
  have H1a : Hid (BankAt wa g p 0 (bkZero, [], 9)) := Lib.hid (h1.out.calm (stepN (w0 := w1)).chg)
  have hna := hnone wa
  refine (bkInst_calls H1a.out (by decide) [97] 0 (.inl rfl) (by decide) (by decide) (img := [97]) (mind := []) rfl (by decide) (by decide) (apart_new2 (by omega) (by omega)) rfl (by decide) (apart_none _ _) (by decide)).mono ?_
  obtain ⟨D, hD⟩ : ∃ D : BSt, D = ⟨if (bkZero, ([] : List UInt8), 9).2.2 = 0 then 1 - bkZero.bank else 0, [(97 : UInt8)].length, ⟨sha [97], sha_len _⟩, (0 : Int).toNat, [97], []⟩ := ⟨_, rfl⟩
  have hDb : D.bank = 0 := by rw [hD]; rfl
  have hDc : D.cnt = 0 := by rw [hD]; rfl
  have HD := Lib.hid hD
  have HDB := Lib.hid hDb
  have HDC := Lib.hid hDc
  clear hD hDb hDc
  rintro e w2 ⟨rfl, h2, _⟩
  have H2 : Hid (BankAt w2 g p 1 (D, [97], 0)) := Lib.hid (by rw [HD.out]; exact h2.out)
  have n2 : Nw w w2 := inferInstance
  clear h2
  go_wp2_with (first | go_skip | ((with_reducible apply (wpl_lit (d1 := some 16))); (exact kbb _); (exact fun _ => rfl); (exact Try.underlying22); (exact Try.underlying5); intro zb wb _ _ _) | ((with_reducible apply wpl_alloc); intro z wz _ _ _) | ((with_reducible apply (wpl_guard (op := .load _ _))); (exact rfl)) | ((with_reducible apply (wpl_guard (op := .fieldAddr _ _ _))); (exact rfl)) | ((with_reducible apply (wpl_guard (op := .convert _ _ _))); (exact rfl)) | ((with_reducible apply wpl_loadrow); (exact rfl); infer_instance; infer_instance; (first | (with_reducible assumption) | (with_reducible exact H32.size _) | kernel_rfl)) | ((with_reducible apply wpl_loadcellN); (exact rfl); infer_instance; (exact rfl)) | ((with_reducible apply wpl_storerow); (exact rfl); (exact rfl); infer_instance; infer_instance; (first | (with_reducible assumption) | (with_reducible exact H32.size _) | kernel_rfl); (first | (with_reducible assumption) | (with_reducible exact H32.size _) | kernel_rfl); (first | (with_reducible exact u8s_one _) | (with_reducible assumption) | kernel_rfl); intro ws _ _) | ((with_reducible apply wpl_storecell); (exact rfl); (exact rfl); infer_instance; (exact rfl); (first | (with_reducible assumption) | omega | (focus (simp; done)) | (focus (simp; omega; done)) | decide); intro ws _ _))
  have hrb : HR wb (some ⟨zb, 0, none⟩) (bs [98]) := inferInstance
  have hzb : g < zb ∧ p < zb := by
    have h1 := (inferInstance : Born w2 zb).eq
    have h2 := H2.out.lts
    omega
  have H2b : Hid (BankAt wb g p 1 (D, [97], 0)) := Lib.hid (H2.out.calm (stepN (w0 := w2)).chg)
  have hnb := hnone wb
  refine (bkInst_calls H2b.out (by decide) [98] 1 (.inr ⟨rfl, by have := HDC.out; show (D.cnt : Int) ≤ 1; omega⟩) (by decide) (by decide) (img := [98]) (mind := []) rfl (by decide) (by decide) (apart_new2 (by omega) (by omega)) rfl (by decide) (apart_none _ _) (by decide)).mono ?_
  rintro e w3 ⟨rfl, h3, _⟩
  obtain ⟨D2, hD2⟩ : ∃ D2 : BSt, D2 = ⟨if (D, [(97 : UInt8)], 0).2.2 = 0 then 1 - D.bank else 0, [(98 : UInt8)].length, ⟨sha [98], sha_len _⟩, (1 : Int).toNat, [98], []⟩ := ⟨_, rfl⟩
  have hDb : D2.bank = 1 := by rw [hD2]; show (if (0 : Nat) = 0 then 1 - D.bank else 0) = 1; rw [HDB.out]; rfl
  have hDc : D2.cnt = 1 := by rw [hD2]; rfl
  have H3 : Hid (BankAt w3 g p 2 (D2, [98], 0)) := Lib.hid (by rw [hD2]; exact h3.out)
  have hb1 : ((D2.bank : Int) == 1) = true := by simp [hDb]
  have hc1 : ((D2.cnt : Int) == 1) = true := by simp [hDc]
  have n3 : Nw w w3 := inferInstance
  clear h3 hD2 hDb hDc HD HDB HDC H2b H2 H1a h1
  go_wp2_with (first | go_skip | ((with_reducible apply wpl_alloc); intro z wz _ _ _) | ((with_reducible apply (wpl_guard (op := .load _ _))); (exact rfl)) | ((with_reducible apply (wpl_guard (op := .fieldAddr _ _ _))); (exact rfl)) | ((with_reducible apply (wpl_guard (op := .convert _ _ _))); (exact rfl)) | ((with_reducible apply wpl_loadrow); (exact rfl); infer_instance; infer_instance; (first | (with_reducible assumption) | (with_reducible exact H32.size _) | kernel_rfl)) | ((with_reducible apply wpl_loadcellN); (exact rfl); infer_instance; (exact rfl)) | ((with_reducible apply wpl_storerow); (exact rfl); (exact rfl); infer_instance; infer_instance; (first | (with_reducible assumption) | (with_reducible exact H32.size _) | kernel_rfl); (first | (with_reducible assumption) | (with_reducible exact H32.size _) | kernel_rfl); (first | (with_reducible exact u8s_one _) | (with_reducible assumption) | kernel_rfl); intro ws _ _) | ((with_reducible apply wpl_storecell); (exact rfl); (exact rfl); infer_instance; (exact rfl); (first | (with_reducible assumption) | omega | (focus (simp; done)) | (focus (simp; omega; done)) | decide); intro ws _ _))
  refine (bkBootAt_calls H3.out).mono ?_
  rintro e w4 ⟨M, m, d, I, n, c, rfl, hm, _, _, hn, hI4, _, _⟩
  have hq := bkL_len D2.bank D2.size D2.sum D2.cnt (strL D2.name) M m d
  have ho := bkL_one D2.bank D2.size D2.sum D2.cnt (strL D2.name) M m d
  have hn' : [(98 : UInt8)].length = n := hn
  go_wp2_with (first | go_skip | ((with_reducible apply wpl_storerow); (exact rfl); (exact rfl); infer_instance; infer_instance; (exact hq); (exact hs0); (exact ho); intro wq _ hbq) | ((with_reducible apply (wpl_loadcell (k := 0))); (exact rfl); (exact hbq); (exact bk_get0 _ _ _ _ _ _ _ _)) | ((with_reducible apply (wpl_loadcell (k := 34))); (exact rfl); (exact hbq); (exact bk_get34 _ _ _ _ _ _ _ _)) | ((with_reducible apply (wpl_alloc (dst := some 4))); intro zq wzq _ _ _) | ((with_reducible apply wpl_alloc); intro z wz _ _ _) | ((with_reducible apply (wpl_guard (op := .load _ _))); (exact rfl)) | ((with_reducible apply (wpl_guard (op := .fieldAddr _ _ _))); (exact rfl)) | ((with_reducible apply (wpl_guard (op := .convert _ _ _))); (exact rfl)) | ((with_reducible apply wpl_loadrow); (exact rfl); infer_instance; infer_instance; (first | (with_reducible assumption) | (with_reducible exact H32.size _) | kernel_rfl)) | ((with_reducible apply wpl_loadcellN); (exact rfl); infer_instance; (exact rfl)) | ((with_reducible apply wpl_storerow); (exact rfl); (exact rfl); infer_instance; infer_instance; (first | (with_reducible assumption) | (with_reducible exact H32.size _) | kernel_rfl); (first | (with_reducible assumption) | (with_reducible exact H32.size _) | kernel_rfl); (first | (with_reducible exact u8s_one _) | (with_reducible assumption) | kernel_rfl); intro ws _ _) | ((with_reducible apply wpl_storecell); (exact rfl); (exact rfl); infer_instance; (exact rfl); (first | (with_reducible assumption) | omega | (focus (simp; done)) | (focus (simp; omega; done)) | decide); intro ws _ _) | ((with_reducible apply (wpl_loadhash (t := 52))); (exact rfl); infer_instance; infer_instance; (first | (with_reducible assumption) | omega)) | ((with_reducible apply (wpl_storehash (t := 52))); (exact rfl); (exact rfl); infer_instance; infer_instance; (first | (with_reducible assumption) | omega | (focus (simp; done)) | (focus (simp; omega; done)) | decide); intro ws _ _) | ((with_reducible apply wpl_conv); (exact rfl); infer_instance; (first | (with_reducible assumption) | (focus (simp; done)) | omega); (exact Try.underlying22); (exact Try.underlying5); (exact Try.underlying9)) | ((with_reducible apply (wpl_loadint (t := 3))); (exact rfl); infer_instance; infer_instance; (first | (with_reducible assumption) | omega)) | ((with_reducible apply (wpl_loadbyte (t := 5))); (exact rfl); infer_instance; infer_instance; (first | (with_reducible assumption) | omega)) | ((with_reducible apply (wpl_storeint (t := 3))); (exact rfl); (exact rfl); infer_instance; (first | (with_reducible assumption) | omega); intro ws _ _) | ((with_reducible apply (wpl_storebyte (t := 5))); (exact rfl); (exact rfl); infer_instance; (first | (with_reducible assumption) | omega | (focus (simp; done)) | (focus (simp; omega; done)) | decide); (constructor <;> omega); intro ws _ _))
  go_ret
  exact ⟨rfl, stepN⟩
end Go.Proofs.Ytegdihpnefoolaa
end
section
open Go Go.RowKit
namespace Go.Proofs.Ytegdihpnefoolaa
section
variable {P : Program} {ops : Array Oper} {rest : List Oper} {a : Act} {w : World} {Q : Exit → Act → World → Prop}
end
theorem eqlHB (a b : H32) (w : World) : (binOp .eql 52 (.agg (u8s a.l)) (.agg (u8s b.l))).run Try.prog w = .ok (.bool (decide (a = b))) w := by
  rw [← beq_hashB]
  exact run_eql_bytes (P := Try.prog) w 52 5 32 Try.underlying52 Try.underlying5 Try.sizeOf5 a.l b.l a.len b.len
end Go.Proofs.Ytegdihpnefoolaa
end
