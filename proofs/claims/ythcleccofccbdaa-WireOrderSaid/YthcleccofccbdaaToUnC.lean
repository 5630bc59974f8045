/- Join, Room, KyC, KyD, QmA, QmI, UnA, UnB, RoA, QmB, QmC, QmD, QmE, UnC -/
import Derived.Test.YthcleccofccbdaaToOcEl
import Derived.Test.YthcleccofccbdaaShelf
import Derived.Test.YthcleccofccbdaaToKyB
import Derived.Test.YthcleccofccbdaaToOcRfC
import Derived.Test.YthcleccofccbdaaToSnM
import Derived.Test.YthcleccofccbdaaToWsB
section
open Go Go.RowKit
namespace Go.Proofs.Ythcleccofccbdaa
/-- fresh bytes, with room behind them -/
structure Room (w : World) (A : Option Addr) (n c : Nat) (xs : List UInt8) : Prop where
  len : xs.length = n
  le : n ≤ c
  max : c ≤ maxLen
  at_ : (A = none ∧ c = 0) ∨ ∃ (g : Nat) (zs : List UInt8), A = some ⟨g, 0, none⟩ ∧ zs.length = c ∧ zs.take n = xs ∧ Rd w A (bs zs) ∧ ∀ i, i < c → w.frozen? ⟨g, i, none⟩ = false
theorem Room.rd {w : World} {A : Option Addr} {n c : Nat} {xs : List UInt8} (h : Room w A n c xs) : Rd w A (bs xs) := by
  rcases h.at_ with ⟨_, h0⟩ | ⟨g, zs, _, _, ht, hr, _⟩
  · have h1 := h.len
    have h2 := h.le
    have : xs = [] := List.eq_nil_of_length_eq_zero (by omega)
    subst this
    exact Rd.nil _ _
  · rw [← ht, ← bs_take]
    exact hr.take n
theorem Room.none (w : World) : Room w none 0 0 [] := ⟨rfl, Nat.le_refl _, Nat.zero_le _, .inl ⟨rfl, rfl⟩⟩
end Go.Proofs.Ythcleccofccbdaa
end
section
open Go Go.RowKit
namespace Go.Proofs.Ythcleccofccbdaa
end Go.Proofs.Ythcleccofccbdaa
end
section
open Go Go.RowKit
namespace Go.Proofs.Ythcleccofccbdaa
instance HO.one (w : World) (z : Nat) (e : TypeId) (x : UInt8) [h : HB w z e (u8s [x])] : HO w e 1 (some ⟨z, 0, none⟩) 1 1 (bs [x]) := ⟨Own.of_blk h.out (Nat.le_refl _) (by decide) rfl rfl⟩
def isS (leaf : Int) (n m : Nat) : Bool := decide (0 ≤ leaf) && decide (leaf < 16) && decide (n = 36) && decide (m = 4)
def sameS (la : Int) (l1 l2 : List H32) (lb : Int) (m1 m2 : List H32) : Bool := decide (la = lb) && decide (l1 = m1) && decide (l2 = m2)
def nameS (r : H32) : H32 := shaH (4 :: r.l)
end Go.Proofs.Ythcleccofccbdaa
end
section
open Go Go.RowKit
namespace Go.Proofs.Ythcleccofccbdaa
def verifyS (pub : H32) (m : List UInt8) (leaf : Int) (l p : List H32) : Bool := isS leaf l.length p.length && decide (nameS (upL (recoverS m l) leaf.toNat p) = pub)
end Go.Proofs.Ythcleccofccbdaa
end
section
open Go Go.RowKit
namespace Go.Proofs.Ythcleccofccbdaa
/-- a mark, and what its two rows hold -/
structure MarkR where
  key : H32
  leaf : Int
  A : Option Addr
  c : Nat
  l : List H32
  B : Option Addr
  k : Nat
  p : List H32
def MarkR.sig (r : MarkR) : List Value := [.int .i64 r.leaf, .slice r.A r.l.length r.c, .slice r.B r.p.length r.k]
instance iQmA_1 : RowC MarkR := ⟨35, fun r => bs r.key.l ++ r.sig, fun r => by simp [MarkR.sig, bs_length], fun r u hu => by
  rcases List.mem_append.1 hu with h | h
  · exact bs_one r.key.l u h
  · simp only [MarkR.sig, List.mem_cons, List.not_mem_nil, or_false] at h
    rcases h with rfl | rfl | rfl <;> rfl, ⟨zeroH, 0, none, 0, [], none, 0, []⟩⟩
/-- the rows of a mark, as they stand in this world -/
def MarkIn (w : World) (r : MarkR) : Prop := Rd w r.A (cellsOf r.l) ∧ Rd w r.B (cellsOf r.p)
instance iQmA_2 : ElemT Try.prog 56 125 35 88 (.agg (u8s zeroH.l ++ #[.int .i64 0, .slice none 0 0, .slice none 0 0])) := ⟨⟨Try.underlying56, by kernel_rfl, rfl, by decide⟩⟩
instance iQmA_3 : RowT Try.prog 125 35 := ⟨by kernel_rfl, _, Try.underlying125, rfl⟩
instance iQmA_4 : RowT Try.prog 58 2 := ⟨by kernel_rfl, _, Try.underlying58, rfl⟩
instance iQmA_5 : RowT Try.prog 24 2 := ⟨by kernel_rfl, _, Try.underlying24, rfl⟩
instance iQmA_6 : CellT Try.prog 28 := ⟨fun _ => by kernel_rfl, fun _ => by kernel_rfl⟩
instance iQmA_7 : CellT Try.prog 56 := ⟨fun _ => by kernel_rfl, fun _ => by kernel_rfl⟩
/-- a mark tells that a key has signed bytes -/
def signsB (m : List UInt8) (h : H32) (r : MarkR) : Bool := decide (r.key = h) && verifyS h m r.leaf r.l r.p
/-- those that signed, of the first keys -/
def whoN (m : List UInt8) (l : List MarkR) (ks : List H32) : Nat → List H32
  | 0 => []
  | k + 1 => whoN m l ks k ++ (if hget ks k ∈ ks.take k then [] else if (l.take 4).any (signsB m (hget ks k)) then [hget ks k] else [])
section
variable {P : Program} {ops : Array Oper} {rest : List Oper} {a : Act} {w : World} {Q : Exit → Act → World → Prop} {dst : Option Tmp} {ty : TypeId} {pos : String} {after : Array Edge} {gd : Option (Nat × Bool)}
end
end Go.Proofs.Ythcleccofccbdaa
end
section
open Go Go.RowKit
namespace Go.Proofs.Ythcleccofccbdaa
def freshB (l : List H32) (i : Nat) : Nat → Bool
  | 0 => true
  | k + 1 => freshB l i k && !decide (hget l i = hget l k)
def allB (l : List H32) : Nat → Bool
  | 0 => true
  | i + 1 => allB l i && freshB l i i
def isB (l : List H32) (need : Int) : Bool := decide (l.length ≤ 4) && decide (1 ≤ need) && decide (need ≤ l.length) && allB l l.length
end Go.Proofs.Ythcleccofccbdaa
end
section

end
section
open Go Go.RowKit
namespace Go.Proofs.Ythcleccofccbdaa
end Go.Proofs.Ythcleccofccbdaa
end
section
open Go Go.RowKit
namespace Go.Proofs.Ythcleccofccbdaa
/-- keys, and what their row holds -/
structure KR where
  A : Option Addr
  n : Nat
  c : Nat
  l : List H32
  need : Int
def KR.m (k : KR) : List H32 × Int := (k.l, k.need)
instance rowCKR : RowC KR := ⟨2, fun k => [.slice k.A k.n k.c, .int .i64 k.need], fun _ => rfl, fun k u hu => by
  simp only [List.mem_cons, List.not_mem_nil, or_false] at hu
  rcases hu with rfl | rfl <;> rfl, ⟨none, 0, 0, [], 0⟩⟩
structure KIn (w : World) (k : KR) : Prop where
  rd : Rd w k.A (cellsOf k.l)
  len : k.l.length = k.n
  cap : k.n ≤ k.c
  le : k.n ≤ 1000
/-- the blocks that a row of digests lies in -/
def inRow (A : Option Addr) (l : List H32) : Nat → Prop := fun x => cellsOf l ≠ [] ∧ rowOf A x
theorem KIn.chg {S : Nat → Prop} {w0 w : World} {k : KR} (h : KIn w0 k) (hc : Chg S w0 w) (hS : ∀ x, inRow k.A k.l x → ¬ S x) : KIn w k := ⟨h.rd.chg hc (fun hne ad e hk => hS _ ⟨hne, ad, e, rfl⟩ hk), h.len, h.cap, h.le⟩
theorem KIn.low {w : World} {k : KR} (h : KIn w k) (x : Nat) (hx : inRow k.A k.l x) : x < w.heap.size := by
  obtain ⟨hne, ad, e, hk⟩ := hx
  rw [← hk]
  exact rd_lt h.rd hne e
instance elemKR : ElemT Try.prog 96 24 2 32 (.agg #[.slice none 0 0, .int .i64 0]) := ⟨⟨Try.underlying96, by kernel_rfl, rfl, by decide⟩⟩
instance rowTKeys : RowT Try.prog 24 2 := ⟨by kernel_rfl, _, Try.underlying24, rfl⟩
instance rowTRoot : RowT Try.prog 27 10 := ⟨by kernel_rfl, _, Try.underlying27, rfl⟩
instance cellKRs : CellT Try.prog 96 := ⟨fun _ => by kernel_rfl, fun _ => by kernel_rfl⟩
/-- a root's cells -/
def rtL (v e : Int) (K : List KR) : List Value := .int .i64 v :: .int .i64 e :: cellsOf K
def noKR : KR := ⟨none, 0, 0, [], 0⟩
def noK : List KR := [noKR, noKR, noKR, noKR]
instance zeroRoot : ZeroT Try.prog 27 (rtL 0 0 noK).toArray := ⟨.agg (rtL 0 0 noK).toArray, fun _ => by kernel_rfl, rfl⟩
section
variable {P : Program} {ops : Array Oper} {rest : List Oper} {a : Act} {w : World} {Q : Exit → Act → World → Prop} {dst : Option Tmp} {ty : TypeId} {pos : String} {after : Array Edge} {gd : Option (Nat × Bool)}
end
/-- what a maker of a field answers -/
def FldPost (w : World) (ys : List UInt8) (U : Nat → Prop) : Ending → World → Prop := fun e w' => ∃ f caps T, e = .returned (.func (.func f) #[] caps) ∧ Step nowhere w w' ∧ Lays w' T (.func (.func f) #[] caps) ys ∧ ∀ x, T x → w.heap.size ≤ x ∨ U x
end Go.Proofs.Ythcleccofccbdaa
end
section
open Go Go.RowKit
namespace Go.Proofs.Ythcleccofccbdaa
/-- the closure that signed hands on -/
def sgnF (zp zb : Nat) : Value := .func (.func 228) #[] #[.pointer (some ⟨zp, 0, none⟩), .pointer (some ⟨zb, 0, none⟩)]
end Go.Proofs.Ythcleccofccbdaa
end
section
open Go Go.RowKit Go.WideMaps
namespace Go.Proofs.Ythcleccofccbdaa
instance iQmC_1 : HashKey Try.prog 78 5 := ⟨⟨Try.underlying78, by kernel_rfl, by kernel_rfl, by kernel_rfl⟩, Try.underlying5, ⟨Try.prog.types.size - 1, by kernel_rfl⟩⟩
instance iQmC_2 : MapHT Try.prog 240 78 := ⟨⟨5, inferInstance⟩, ⟨241, Try.underlying240, fun _ => by kernel_rfl⟩⟩
instance iQmC_3 : ZeroT Try.prog 241 #[] := ⟨.agg #[], fun _ => by kernel_rfl, rfl⟩
instance iQmC_4 : RowT Try.prog 241 0 := ⟨by kernel_rfl, _, Try.underlying241, rfl⟩
instance OffB.bornHMH (w : World) (z g m : Nat) (f : H32 → Bool) [b : Born w z] [h : HMH Try.prog 78 w g m f] : OffB (only z) g := ⟨fun e => by
  have e' : g = z := e
  have := h.out.lt
  rw [e', b.eq] at this
  omega⟩
instance OffB.laterHMH (w : World) (z g m : Nat) (f : H32 → Bool) [b : Born w g] [h : HMH Try.prog 78 w z m f] : OffB (only z) g := ⟨fun e => by
  have e' : g = z := e
  have := h.out.lt
  rw [← e', b.eq] at this
  omega⟩
instance OffB.grewHMH (w : World) (A A' : Option Addr) (g m : Nat) (f : H32 → Bool) [k : Grew w A A'] [h : HMH Try.prog 78 w g m f] [o : OffB (rowOf A) g] : OffB (rowOf A') g := ⟨fun ⟨ad, e, hk⟩ => by
  rcases k.out with h1 | h1
  · rw [h1] at e
    exact o.out ⟨ad, e, hk⟩
  · rw [h1] at e
    injection e with e
    have := h.out.lt
    rw [← hk, ← e] at this
    exact absurd this (Nat.lt_irrefl _)⟩
/-- a row of digests of its own is what is told -/
def WhoPost (R : List H32) (w w' : World) (e : Ending) : Prop := ∃ B n' c', e = .returned (.slice B n' c') ∧ R.length = n' ∧ HR w' B (cellsOf R) ∧ Step nowhere w w'
end Go.Proofs.Ythcleccofccbdaa
end
section
open Go Go.RowKit Go.WideMaps
namespace Go.Proofs.Ythcleccofccbdaa
end Go.Proofs.Ythcleccofccbdaa
end
section
open Go Go.RowKit Go.WideMaps
namespace Go.Proofs.Ythcleccofccbdaa
end Go.Proofs.Ythcleccofccbdaa
end
section

end
