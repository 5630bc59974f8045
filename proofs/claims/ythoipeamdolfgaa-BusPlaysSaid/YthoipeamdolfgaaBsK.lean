/- known; BusFull. -/
import Derived.Test.YthoipeamdolfgaaBsG
open Go Go.RowKit
namespace Go.Proofs.Ythoipeamdolfgaa
open Hp
theorem sendE (id : Int) {A : Option Addr} {n c : Nat} {d : List UInt8} {w : World} {z : Nat} {S : Nat → Prop} {cm : Nat} {fr : List Fr} (w0 : World) (h : BS w z S cm fr) (hn0 : Chg nowhere w0 w) (hS : ∀ x, S x → w0.heap.size ≤ x) (hcm : cm ≤ 1000000) [hd : HR w A (bs d)] (hn : d.length = n) (hlen : fr.length ≤ 1000) (hmax : n ≤ 9223372036854775807) {e0 : Int} {fr' : List Fr} {cm' : Nat} (hs : sendS fr (id, d) = (e0, fr')) (hc : sendC fr (id, d) cm = cm') :
    Calls Try.prog 19 #[.pointer (some ⟨z, 0, none⟩), .agg #[.int .i64 id, .slice A n c]] w fun e w' => e = .returned (.int .i64 e0) ∧ ∃ S', BS w' z S' cm' fr' ∧ Chg nowhere w0 w' ∧ (∀ x, S' x → w0.heap.size ≤ x) ∧ Chg S w w' := by
  have h1 := send_calls id (A := A) (c := c) h hcm hn hlen hmax
  rw [hs, hc] at h1
  refine h1.mono ?_
  rintro e w' ⟨he, S', h2, h3, h4⟩
  exact ⟨he, S', h2, hn0.trans h3 (fun x hx hk => by have := hS x hk; omega), fun x hx => (h4 x hx).elim (fun h => hS x h) (fun h => Nat.le_trans hn0.size h), h3⟩
theorem run_frameI (id : Int) (w : World) : (Instr.build 45 #[(0, .int .i64 id)]).run Try.prog w = .ok (.agg #[.int .i64 id, .slice none 0 0]) w := by kernel_rfl
theorem run_frameD (id : Int) (A : Option Addr) (n c : Nat) (w : World) : (Instr.build 45 #[(0, .int .i64 id), (1, .slice A n c)]).run Try.prog w = .ok (.agg #[.int .i64 id, .slice A n c]) w := by kernel_rfl
set_option maxRecDepth 100000 in
set_option maxHeartbeats 800000 in
theorem known_calls (w : World) : Calls Try.prog 26 #[] w fun e w' => e = .returned (.bool true) ∧ Step nowhere w w' := by
  go_enter Try.func26, Try.ntmps26
  go_wp2_with fail
  refine (newB_calls w).mono ?_
  rintro e w1 ⟨z, rfl, hs1, hB1, hz⟩
  have hS1 : ∀ x, only z x → w.heap.size ≤ x := fun x hx => by rw [show x = z from hx]; exact hz
  go_wp2_with (first | go_skip | ((with_reducible apply wpl_build); (exact run_frameI _ _)) | ((with_reducible apply wpl_alloc); intro z wz _ _ _) | ((with_reducible apply (wpl_guard (op := .load _ _))); (exact rfl)) | ((with_reducible apply (wpl_guard (op := .fieldAddr _ _ _))); (exact rfl)) | ((with_reducible apply wpl_loadrow); (exact rfl); (exact inferInstance); (exact inferInstance); (first | (with_reducible assumption) | (with_reducible exact H32.size _) | (with_reducible exact enc_sz _ rfl) | kernel_rfl)) | ((with_reducible apply wpl_loadcellN); (exact rfl); (exact inferInstance); (first | (exact rfl) | (exact tg_hw _) | (exact tg_ctr _) | (exact tg_ecu _) | (exact srch_who) | (exact srch_fd))) | ((with_reducible apply wpl_storerow); (exact rfl); (exact rfl); (exact inferInstance); (exact inferInstance); (first | (with_reducible assumption) | (with_reducible exact H32.size _) | (with_reducible exact enc_sz _ rfl) | kernel_rfl); (first | (with_reducible assumption) | (with_reducible exact H32.size _) | (with_reducible exact enc_sz _ rfl) | kernel_rfl); (first | (with_reducible exact u8s_one _) | (with_reducible assumption) | (with_reducible exact enc_one _) | kernel_rfl); intro ws _ _) | ((with_reducible apply wpl_storecell); (exact rfl); (exact rfl); (exact inferInstance); (exact rfl); (first | (with_reducible assumption) | omega | (focus (simp; done)) | (focus (simp; omega; done)) | decide); intro ws _ _))
  refine (sendE 5 (A := none) (c := 0) (d := []) w hB1 hs1.chg hS1 (by omega) rfl (by decide) (by decide) (e0 := 0) (fr' := [(5, [])]) (cm' := 1) rfl rfl).mono ?_
  rintro e w2 ⟨rfl, S2, hB2, hn2, hS2, _⟩
  go_wp2_with (first | go_skip | ((with_reducible apply wpl_build); (exact run_frameI _ _)) | ((with_reducible apply wpl_alloc); intro z wz _ _ _) | ((with_reducible apply (wpl_guard (op := .load _ _))); (exact rfl)) | ((with_reducible apply (wpl_guard (op := .fieldAddr _ _ _))); (exact rfl)) | ((with_reducible apply wpl_loadrow); (exact rfl); (exact inferInstance); (exact inferInstance); (first | (with_reducible assumption) | (with_reducible exact H32.size _) | (with_reducible exact enc_sz _ rfl) | kernel_rfl)) | ((with_reducible apply wpl_loadcellN); (exact rfl); (exact inferInstance); (first | (exact rfl) | (exact tg_hw _) | (exact tg_ctr _) | (exact tg_ecu _) | (exact srch_who) | (exact srch_fd))) | ((with_reducible apply wpl_storerow); (exact rfl); (exact rfl); (exact inferInstance); (exact inferInstance); (first | (with_reducible assumption) | (with_reducible exact H32.size _) | (with_reducible exact enc_sz _ rfl) | kernel_rfl); (first | (with_reducible assumption) | (with_reducible exact H32.size _) | (with_reducible exact enc_sz _ rfl) | kernel_rfl); (first | (with_reducible exact u8s_one _) | (with_reducible assumption) | (with_reducible exact enc_one _) | kernel_rfl); intro ws _ _) | ((with_reducible apply wpl_storecell); (exact rfl); (exact rfl); (exact inferInstance); (exact rfl); (first | (with_reducible assumption) | omega | (focus (simp; done)) | (focus (simp; omega; done)) | decide); intro ws _ _))
  refine (sendE 3 (A := none) (c := 0) (d := []) w hB2 hn2 hS2 (by omega) rfl (by decide) (by decide) (e0 := 0) (fr' := [(3, []), (5, [])]) (cm' := 2) rfl rfl).mono ?_
  rintro e w3 ⟨rfl, S3, hB3, hn3, hS3, _⟩
  go_wp2_with fail
  refine (next_calls hB3 (by decide)).mono ?_
  rintro e w4 ⟨A4, c4, rfl, ⟨S4, hB4, hc4, hS4⟩, _, _⟩
  have hn4 : Chg nowhere w w4 := hn3.trans hc4 (fun x hx hk => by have := hS3 x hk; omega)
  go_wp2_with (first | go_skip | ((with_reducible apply (wpl_alloc (dst := some 2))); intro zf wzf _ _ _) | ((with_reducible apply wpl_alloc); intro z wz _ _ _) | ((with_reducible apply (wpl_guard (op := .load _ _))); (exact rfl)) | ((with_reducible apply (wpl_guard (op := .fieldAddr _ _ _))); (exact rfl)) | ((with_reducible apply wpl_loadrow); (exact rfl); (exact inferInstance); (exact inferInstance); (first | (with_reducible assumption) | (with_reducible exact H32.size _) | (with_reducible exact enc_sz _ rfl) | kernel_rfl)) | ((with_reducible apply wpl_loadcellN); (exact rfl); (exact inferInstance); (first | (exact rfl) | (exact tg_hw _) | (exact tg_ctr _) | (exact tg_ecu _) | (exact srch_who) | (exact srch_fd))) | ((with_reducible apply wpl_storerow); (exact rfl); (exact rfl); (exact inferInstance); (exact inferInstance); (first | (with_reducible assumption) | (with_reducible exact H32.size _) | (with_reducible exact enc_sz _ rfl) | kernel_rfl); (first | (with_reducible assumption) | (with_reducible exact H32.size _) | (with_reducible exact enc_sz _ rfl) | kernel_rfl); (first | (with_reducible exact u8s_one _) | (with_reducible assumption) | (with_reducible exact enc_one _) | kernel_rfl); intro ws _ _) | ((with_reducible apply wpl_storecell); (exact rfl); (exact rfl); (exact inferInstance); (exact rfl); (first | (with_reducible assumption) | omega | (focus (simp; done)) | (focus (simp; omega; done)) | decide); intro ws _ _))
  refine (lenB_calls (hB4.calm (stepN (w0 := w4) (w := ws)).chg (fun _ _ hk => hk))).mono ?_
  rintro e w5 ⟨rfl, rfl⟩
  go_wp2_with fail
  go_ret
  exact ⟨rfl, ⟨hn4.trans (stepN (w0 := w4) (w := ws)).chg (fun _ _ hk => hk)⟩⟩
end Go.Proofs.Ythoipeamdolfgaa
