/- A row that the call made since. -/
import Derived.Test.YthoipeamdolfgaaDoorOcKnown
open Go Go.RowKit
namespace Go.Proofs.YthoipeamdolfgaaDoor
/-- a row that the call made since w0 -/
structure Fresh (w0 w : World) (A : Option Addr) (n c : Nat) (xs : List UInt8) : Prop where
  own : Own w 5 1 A n c (bs xs)
  len : n = xs.length
  chg : Chg nowhere w0 w
  new : ∀ ad, A = some ad → w0.heap.size ≤ ad.block
theorem Fresh.nil (w : World) : Fresh w w none 0 0 [] := ⟨Own.nil _ _ _, rfl, Chg.refl _ _, fun ad e => by cases e⟩
theorem Fresh.push {w0 w wx w2 : World} {A A' : Option Addr} {n c n' c' : Nat} {xs ys : List UInt8} (h : Fresh w0 w A n c xs) (h0 : Chg nowhere w wx) (hc : Chg (fun k => ∃ ad, A = some ad ∧ ad.block = k) wx w2)
    (ho : Own w2 5 1 A' n' c' (bs ys)) (hn : n' = ys.length) (hA : A' = A ∨ ∃ z, A' = some ⟨z, 0, none⟩ ∧ w.heap.size ≤ z) : Fresh w0 w2 A' n' c' ys := by
  refine ⟨ho, hn, (h.chg.step h0 (fun _ h => h.elim)).step hc ?_, ?_⟩
  · rintro x ⟨ad, e, rfl⟩
    exact h.new ad e
  · rintro ad rfl
    rcases hA with e | ⟨z, e, hz⟩
    · exact h.new ad e.symm
    · injection e with e
      subst e
      have := h.chg.size
      show w0.heap.size ≤ z
      omega
theorem Fresh.rd {w0 w : World} {A : Option Addr} {n c : Nat} {xs : List UInt8} (h : Fresh w0 w A n c xs) : Rd w A (bs xs) := h.own.rd
theorem u8_or_128' (m : Nat) : Value.int .u8 (bits .or .u8 ((m : Int) % 128) 128) = u8v (UInt8.ofNat (m % 128 + 128)) := by
  have h := u8_or_128 (m % 128)
  rw [show (((m % 128 : Nat) : Int) % 256) = (m : Int) % 128 by omega, Nat.mod_mod] at h
  exact h
theorem u64_and127 (m : Nat) (h : m < 18446744073709551616) : bits .and .u64 (m : Int) 127 = ((m % 128 : Nat) : Int) := by
  rw [show (127 : Int) = ((127 : Nat) : Int) from rfl, u64_and_nat m 127 h (by decide), nat_mask7]
/-- a row is one row with another one -/
theorem Fresh.far_ {w0 w w2 : World} {S : Nat → Prop} {A : Option Addr} {n c : Nat} {xs : List UInt8} (h : Fresh w0 w A n c xs) (hc : Chg S w w2) (hS : ∀ ad, A = some ad → ¬ S ad.block) (hS2 : ∀ k, S k → w0.heap.size ≤ k) : Fresh w0 w2 A n c xs :=
  ⟨h.own.chg hc hS, h.len, h.chg.step hc hS2, h.new⟩
end Go.Proofs.YthoipeamdolfgaaDoor
