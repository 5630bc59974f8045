/- OcW -/
import Derived.Test.YthcleccofccbdaaGreatTbOcSpec
import Derived.Test.YthcleccofccbdaaGreatTbOcEl
open Go Go.RowKit
namespace Go.Proofs.YthcleccofccbdaaGreat
/-- a Writer at block g, whose bytes lie at A -/
structure WrAt (w : World) (g : Nat) (A : Option Addr) (xs : List UInt8) : Prop where
  ex : ∃ n c, n = xs.length ∧ Blk w g 144 #[.slice A n c] ∧ Own w 5 1 A n c (bs xs)
  far : ∀ ad, A = some ad → ad.block ≠ g
theorem WrAt.lt {w : World} {g : Nat} {A : Option Addr} {xs : List UInt8} (h : WrAt w g A xs) : g < w.heap.size := by
  obtain ⟨⟨_, _, _, hb, _⟩, _⟩ := h
  exact hb.lt
theorem WrAt.old {w : World} {g : Nat} {A : Option Addr} {xs : List UInt8} (h : WrAt w g A xs) : ∀ k, Wf g A k → k < w.heap.size := by
  obtain ⟨⟨_, _, _, hb, ho⟩, _⟩ := h
  rintro k (rfl | ⟨ad, e, rfl⟩)
  · exact hb.lt
  · exact ho.lt e
theorem WrAt.fresh {w : World} {g : Nat} {A : Option Addr} {xs : List UInt8} (h : WrAt w g A xs) {z : Nat} (hz : w.heap.size ≤ z) (vs : List Value) : Apart (Wf g A) (some (⟨z, 0, none⟩ : Addr)) vs := by
  intro _ ad e hW
  injection e with e
  subst e
  have := h.old _ hW
  simp at this
  omega
theorem WrAt.chg {S : Nat → Prop} {w w' : World} {g : Nat} {A : Option Addr} {xs : List UInt8} (h : WrAt w g A xs) (hc : Chg S w w') (hS : ∀ k, Wf g A k → ¬ S k) : WrAt w' g A xs := by
  obtain ⟨⟨n, c, hn, hb, ho⟩, hf⟩ := h
  exact ⟨⟨n, c, hn, hb.chg hc (hS g (.inl rfl)), ho.chg hc (fun ad e => hS _ (.inr ⟨ad, e, rfl⟩))⟩, hf⟩
theorem u8_or_128 (m : Nat) : Value.int .u8 (bits .or .u8 ((m : Int) % 256) 128) = u8v (UInt8.ofNat (m % 128 + 128)) := by
  have h1 : ((m : Int) % 256) = ((m % 256 : Nat) : Int) := by omega
  have h2 : ((128 : Int)) = ((128 : Nat) : Int) := rfl
  have h3 : m % 256 ||| 128 = m % 128 + 128 := by
    have h4 : m % 256 = 128 * (m / 128 % 2) + m % 128 := by omega
    rcases Nat.mod_two_eq_zero_or_one (m / 128) with h5 | h5
    · rw [h5] at h4
      rw [h4, Nat.or_comm]
      have := nat_join 7 128 (128 * 0 + m % 128) (by decide) (by omega)
      omega
    · rw [h5] at h4
      rw [h4, Nat.or_comm]
      have h6 := nat_join 7 128 (m % 128) (by decide) (by omega)
      rw [show 128 * 1 + m % 128 = 128 ||| m % 128 by omega, ← Nat.or_assoc, show 128 ||| 128 = 128 from rfl, h6]
      omega
  rw [h1, h2, u8_or_nat _ _ (by omega) (by omega), h3]
  simp [u8v]
  omega
theorem u8_low (m : Nat) (h : m < 128) : Value.int .u8 (m : Int) = u8v (UInt8.ofNat m) := by
  simp [u8v]
  omega
def is64 (vs : List Int) : List Value := vs.map (.int .i64)
theorem nilB (w : World) (a : Option Addr) (n c n' c' : Nat) : (binOp .eql 26 (.slice a n c) (.slice none n' c')).run Tryz.prog w = .ok (.bool a.isNone) w :=
  Lib.run_eql_slice_nil w 26 5 a n c n' c' Tryz.underlying26
attribute [local go_sem] nilB
set_option maxRecDepth 100000 in
set_option maxHeartbeats 400000 in
theorem Clone_calls (A : Option Addr) (n c : Nat) (xs : List UInt8) (w : World) (hr : Rd w A (bs xs)) (hn : xs.length = n) (hx : n ≤ 140737488351232) :
    Calls Tryz.prog 143 #[.slice A n c] w fun e w' => ∃ A' c', e = .returned (.slice A' n c') ∧ Hid (Own w' 5 1 A' n c' (bs xs)) ∧
      Hid (Chg nowhere w w') ∧ Hid (∀ ad, A' = some ad → w.heap.size ≤ ad.block) := by
  have HN := Lib.hid hn
  have HR := Lib.hid hr
  have HB : Hid (0 + n ≤ lim) := hid_lim (by omega)
  have HM : Hid ((bs xs).length = n) := Lib.hid (by rw [bs_length]; exact hn)
  clear hr hx
  rcases A with _ | ad
  · have h0 : n = 0 := by
      rcases xs with _ | ⟨x, xs⟩
      · simpa using hn.symm
      · obtain ⟨ad, h, _⟩ := HR.out 0 (u8v x) rfl
        cases h
    subst h0
    have hxs : xs = [] := List.eq_nil_of_length_eq_zero hn
    clear hn
    go_enter Tryz.func143, Tryz.ntmps143
    go_wp2
    go_ret
    refine ⟨none, 0, rfl, ?_, Chg.refl _ _, fun ad h => by cases h⟩
    rw [hxs]
    exact Own.nil _ _ _
  · clear hn
    go_enter Tryz.func143, Tryz.ntmps143
    go_wp2_with (at_builtin; refine wpList_append_many rfl (.tmp 5) (.tmp 6) elemB rfl (Nat.le_refl _) rfl (elem_nil _) rfl (HR.out.alloc _) HM (bs_one xs) HB ?_)
    intro A3 c3 w3 hown3 hchg3 hA3
    have HO := Lib.hid hown3
    have HC : Hid (Chg nowhere w w3) := Lib.hid (((Chg.refl nowhere w).alloc (.cells #[] 5)).trans hchg3 (fun x hx hT => by
      first | omega | (simp at hT; omega) | (obtain ⟨ad, e, h⟩ := hT; injection e with e; subst e; simp at h; omega)))
    have HA : Hid (∀ ad, A3 = some ad → w.heap.size ≤ ad.block) := Lib.hid (by
      rintro ad rfl
      rcases hA3 with h | h <;> injection h with h <;> subst h <;> simp)
    clear hown3 hchg3 hA3
    go_wp2
    go_ret
    exact ⟨A3, c3, rfl, HO.out, HC, HA⟩
def encRows (l : List Row) : List UInt8 := l.flatMap fun r => encRow r.p
def rowsSize : List Row → Nat
  | [] => 0
  | r :: l => r.p.length + 10 + rowsSize l
end Go.Proofs.YthcleccofccbdaaGreat
