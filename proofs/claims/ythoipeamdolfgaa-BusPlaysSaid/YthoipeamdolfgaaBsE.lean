/- The Bus in memory: New, Len, Send, Next. -/
import Derived.Test.YthoipeamdolfgaaBsD
open Go Go.RowKit
namespace Go.Proofs.Ythoipeamdolfgaa
open Hp
/-- one that waits can be read; its bytes lie in S, apart from z and the queue's row -/
def MOk (w : World) (z : Nat) (A : Option Addr) (S : Nat → Prop) (m : BM) : Prop :=
  Rd w m.A (bs m.d) ∧ m.d.length = m.n ∧ (m.d ≠ [] → ∀ ad, m.A = some ad → S ad.block ∧ ad.block ≠ z ∧ ∀ bd, A = some bd → ad.block ≠ bd.block)
/-- the Bus at z: its blocks are S, cm frames came, fr wait -/
structure BS (w : World) (z : Nat) (S : Nat → Prop) (cm : Nat) (fr : List Fr) : Prop where
  inz : S z
  low : ∀ x, S x → x < w.heap.size
  mem : ∃ (q : List BM) (A : Option Addr) (c : Nat), Blk w z 86 #[.slice A fr.length c, .int .i64 (cm : Int)] ∧ Own w 91 3 A fr.length c (cellsOf q) ∧ (∀ ad, A = some ad → S ad.block ∧ ad.block ≠ z) ∧ (∀ m ∈ q, MOk w z A S m) ∧ Wt q cm fr
def BTo (z : Nat) (S : Nat → Prop) (w : World) (cm : Nat) (fr : List Fr) (w' : World) : Prop := ∃ S', BS w' z S' cm fr ∧ Chg S w w' ∧ ∀ x, S' x → S x ∨ w.heap.size ≤ x
theorem BS.calm {T : Nat → Prop} {w w' : World} {z : Nat} {S : Nat → Prop} {cm : Nat} {fr : List Fr} (h : BS w z S cm fr) (hc : Chg T w w') (hT : ∀ x, S x → ¬ T x) : BS w' z S cm fr := by
  obtain ⟨q, A, c, hb, ho, hA, hm, hq⟩ := h.mem
  exact ⟨h.inz, fun x hx => Nat.lt_of_lt_of_le (h.low x hx) hc.size, q, A, c, hb.chg hc (hT z h.inz), ho.chg hc (fun ad e => hT _ (hA ad e).1), hA, fun m hm' => by
    obtain ⟨h1, h2, h3⟩ := hm m hm'
    exact ⟨h1.chg hc (fun hne ad e => hT _ (h3 (fun h0 => hne (by rw [h0]; rfl)) ad e).1), h2, h3⟩, hq⟩
theorem BTo.refl {z : Nat} {S : Nat → Prop} {w : World} {cm : Nat} {fr : List Fr} (h : BS w z S cm fr) : BTo z S w cm fr w := ⟨S, h, Chg.refl _ _, fun _ h => .inl h⟩
theorem BTo.quiet {z : Nat} {S : Nat → Prop} {w w' : World} {cm : Nat} {fr : List Fr} (h : BS w z S cm fr) (hc : Chg nowhere w w') : BTo z S w cm fr w' := ⟨S, h.calm hc (fun _ _ hk => hk), hc.mono (fun _ _ hk => hk.elim), fun _ h => .inl h⟩
theorem BTo.calm {z : Nat} {S : Nat → Prop} {w w1 w' : World} {cm : Nat} {fr : List Fr} (hc : Chg nowhere w w1) (h : BTo z S w1 cm fr w') : BTo z S w cm fr w' := by
  obtain ⟨S', h1, h2, h3⟩ := h
  exact ⟨S', h1, (hc.mono (fun _ _ hk => hk.elim)).trans h2 (fun _ _ hk => hk), fun x hx => (h3 x hx).imp (fun h => h) (fun h => Nat.le_trans hc.size h)⟩
theorem run_newBus (w : World) : (Instr.build 86 #[]).run Try.prog w = .ok (.agg #[.slice none 0 0, .int .i64 0]) w := by kernel_rfl
theorem run_wait (id : Int) (A : Option Addr) (n c : Nat) (came : Int) (w : World) : (Instr.build 91 #[(0, .agg #[.int .i64 id, .slice A n c]), (1, .int .i64 came)]).run Try.prog w = .ok (.agg #[.int .i64 id, .slice A n c, .int .i64 came]) w := by kernel_rfl
theorem run_frame0 (w : World) : (Instr.build 45 #[]).run Try.prog w = .ok (.agg #[.int .i64 0, .slice none 0 0]) w := by kernel_rfl
set_option maxRecDepth 100000 in
theorem newB_calls (w : World) :
    Calls Try.prog 18 #[] w fun e w' => ∃ z, e = .returned (.pointer (some ⟨z, 0, none⟩)) ∧ Step nowhere w w' ∧ BS w' z (only z) 0 [] ∧ w.heap.size ≤ z := by
  go_enter Try.func18, Try.ntmps18
  go_wp2_with (first | ((with_reducible apply wpl_build); (exact run_newBus _)) | ((with_reducible apply (wpl_box_agg (dst := some 2))); (exact rfl); intro z wz _ _ _) | ((with_reducible apply (wpl_box_int (dst := some 2))); (exact rfl); intro z wz _ _ _) | ((with_reducible apply (wpl_box_slice (dst := some 2))); (exact rfl); intro z wz _ _ _) | ((with_reducible apply (wpl_box_str (dst := some 2))); (exact rfl); intro z wz _ _ _) | ((with_reducible apply (wpl_box_bool (dst := some 2))); (exact rfl); intro z wz _ _ _) | ((with_reducible apply (wpl_box_ptr (dst := some 2))); (exact rfl); intro z wz _ _ _) | ((with_reducible apply wpl_box_agg); (exact rfl); intro z wz _ _ _) | ((with_reducible apply wpl_box_int); (exact rfl); intro z wz _ _ _) | ((with_reducible apply wpl_box_slice); (exact rfl); intro z wz _ _ _) | ((with_reducible apply wpl_box_str); (exact rfl); intro z wz _ _ _) | ((with_reducible apply wpl_box_bool); (exact rfl); intro z wz _ _ _) | ((with_reducible apply wpl_box_ptr); (exact rfl); intro z wz _ _ _))
  go_ret
  have hB : HB wz z 86 #[.slice none 0 0, .int .i64 0] := inferInstance
  have hN : Born w z := inferInstance
  exact ⟨z, rfl, stepN, ⟨rfl, fun x hx => by rw [show x = z from hx]; exact hB.out.lt, [], none, 0, hB.out, Own.nil _ _ _, (fun ad e => by cases e), (fun m h => by cases h), Wt.nil 0⟩, Nat.le_of_eq hN.eq.symm⟩
set_option maxRecDepth 100000 in
theorem lenB_calls {w : World} {z : Nat} {S : Nat → Prop} {cm : Nat} {fr : List Fr} (h : BS w z S cm fr) :
    Calls Try.prog 23 #[.pointer (some ⟨z, 0, none⟩)] w fun e w' => e = .returned (.int .i64 (fr.length : Int)) ∧ w = w' := by
  obtain ⟨q, A, c, hb, ho, hA, hm, hq⟩ := h.mem
  have hB : HB w z 86 #[.slice A fr.length c, .int .i64 (cm : Int)] := ⟨hb⟩
  go_enter Try.func23, Try.ntmps23
  go_wp2_with (first | ((with_reducible apply wpl_loadrow); (exact rfl); (exact inferInstance); (exact inferInstance); (first | (with_reducible assumption) | (with_reducible exact H32.size _) | (with_reducible exact enc_sz _ rfl) | kernel_rfl)) | ((with_reducible apply wpl_loadcellN); (exact rfl); (exact inferInstance); (first | (exact rfl) | (exact tg_hw _) | (exact tg_ctr _) | (exact tg_ecu _) | (exact srch_who) | (exact srch_fd))))
  refine (len_calls A fr.length c w).mono ?_
  rintro e w5 ⟨rfl, rfl⟩
  go_wp2_with fail
  go_ret
  exact ⟨rfl, rfl⟩
/-- what Send answers, and what waits then -/
def sendS (fr : List Fr) (x : Fr) : Int × List Fr := if x.1 < 0 ∨ 2047 < x.1 ∨ 8 < x.2.length then (1, fr) else if 64 ≤ fr.length then (12, fr) else (0, insF fr x)
def sendC (fr : List Fr) (x : Fr) (cm : Nat) : Nat := if (sendS fr x).1 = 0 then cm + 1 else cm
theorem BS.pushDone {w w' : World} {z : Nat} {S : Nat → Prop} {cm : Nat} {fr : List Fr} (h : BS w z S cm fr) {q : List BM} {A : Option Addr} {c : Nat} (hb : Blk w z 86 #[.slice A fr.length c, .int .i64 (cm : Int)]) (hA : ∀ ad, A = some ad → S ad.block ∧ ad.block ≠ z) (hm : ∀ m ∈ q, MOk w z A S m) (hq : Wt q cm fr)
    {x : BM} (hx : x.came = cm) (hxl : x.d.length = x.n) (hxA : NewA w x.A) (hxr : HR w' x.A (bs x.d)) {A' : Option Addr} {c' : Nat} (hC : Chg (zr z A) w w') (hB : HB w' z 86 #[.slice A' (fr.length + 1) c', .int .i64 ((cm + 1 : Nat) : Int)]) (hO : HO w' 91 3 A' (fr.length + 1) c' (cellsOf (pushL bm0 ahB q x))) (hg : ∀ ad, A' = some ad → A' = A ∨ w.heap.size ≤ ad.block)
    (hxg : ∀ ad, x.A = some ad → x.d ≠ [] → ∀ bd, A' = some bd → ad.block ≠ bd.block) : BTo z S w (cm + 1) (insF fr x.fr) w' := by
  have hz : z < w.heap.size := hb.lt
  have hSS : ∀ y, zr z A y → S y := fun y hy => hy.elim (fun e => by rw [show y = z from e]; exact h.inz) (fun ⟨ad, e, hk⟩ => by rw [← hk]; exact (hA ad e).1)
  refine ⟨fun y => S y ∨ (w.heap.size ≤ y ∧ y < w'.heap.size), ⟨.inl h.inz, fun y hy => hy.elim (fun hy => Nat.lt_of_lt_of_le (h.low y hy) hC.size) (fun hy => hy.2), pushL bm0 ahB q x, A', c', by rw [insF_len]; exact hB.out, by rw [insF_len]; exact hO.out, fun ad e => ?_, fun m hm' => ?_, hq.push x hx⟩, hC.mono (fun y _ hy => hSS y hy), fun y hy => hy.imp (fun h => h) (fun h => h.1)⟩
  · rcases hg ad e with h1 | h1
    · have h2 := hA ad (h1 ▸ e)
      exact ⟨.inl h2.1, h2.2⟩
    · exact ⟨.inr ⟨h1, hO.out.lt e⟩, by omega⟩
  · rcases List.mem_cons.1 ((pushL_perm bm0 ahB q x).mem_iff.1 hm') with rfl | hm'
    · refine ⟨hxr.out, hxl, fun hne ad e => ⟨.inr ⟨hxA.out ad e, rd_lt hxr.out (by simpa [bs] using hne) e⟩, by have := hxA.out ad e; omega, hxg ad e hne⟩⟩
    · obtain ⟨h1, h2, h3⟩ := hm m hm'
      have hne : bs m.d ≠ [] → m.d ≠ [] := fun hne h0 => hne (by rw [h0]; rfl)
      refine ⟨h1.chg hC (fun hn ad e hk => ?_), h2, fun hn ad e => ⟨.inl (h3 hn ad e).1, (h3 hn ad e).2.1, fun bd e2 => ?_⟩⟩
      · have h4 := h3 (hne hn) ad e
        rcases hk with hk | ⟨bd, e2, hk⟩
        · exact h4.2.1 hk
        · exact h4.2.2 bd e2 hk.symm
      · rcases hg bd e2 with h1' | h1'
        · exact (h3 hn ad e).2.2 bd (h1' ▸ e2)
        · have := h.low _ (h3 hn ad e).1
          omega
end Go.Proofs.Ythoipeamdolfgaa
