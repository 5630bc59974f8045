/- OcSpec, OcW, OcRfA, KyM, RdA, RdB, RdC, RrA, RrB, KyN, KyP -/
import Derived.Test.YtmijlojjkgeplaaTqBase
import Derived.Test.YtmijlojjkgeplaaTqMapH
import Derived.Test.YtmijlojjkgeplaaTqKyC
import Derived.Test.YtmijlojjkgeplaaTqKyB
section
namespace Go.Proofs.Ytmijlojjkgeplaa
/-- a number in digits of seven bits, the lowest first; all but the last bear the high bit -/
def enc (n : Nat) : List UInt8 := if n < 128 then [UInt8.ofNat n] else UInt8.ofNat (n % 128 + 128) :: enc (n / 128)
termination_by n
decreasing_by omega
/-- a number of any int, laid: below 0 as 0, above 2^62 as 2^62 -/
def clampN (v : Int) : Nat := (min (max v 0) 4611686018427387904).toNat
def encAll (vs : List Int) : List UInt8 := vs.flatMap fun v => enc (clampN v)
def encRow (p : List UInt8) : List UInt8 := enc p.length ++ p
end Go.Proofs.Ytmijlojjkgeplaa
end
section
open Go Go.RowKit
namespace Go.Proofs.Ytmijlojjkgeplaa
/-- a Writer at block g, whose bytes lie at A -/
structure WrAt (w : World) (g : Nat) (A : Option Addr) (xs : List UInt8) : Prop where
  ex : ∃ n c, n = xs.length ∧ Blk w g 110 #[.slice A n c] ∧ Own w 5 1 A n c (bs xs)
  far : ∀ ad, A = some ad → ad.block ≠ g
theorem WrAt.lt {w : World} {g : Nat} {A : Option Addr} {xs : List UInt8} (h : WrAt w g A xs) : g < w.heap.size := by
  obtain ⟨⟨_, _, _, hb, _⟩, _⟩ := h
  exact hb.lt
theorem WrAt.old {w : World} {g : Nat} {A : Option Addr} {xs : List UInt8} (h : WrAt w g A xs) : ∀ k, Wf g A k → k < w.heap.size := by
  obtain ⟨⟨_, _, _, hb, ho⟩, _⟩ := h
  rintro k (rfl | ⟨ad, e, rfl⟩)
  · exact hb.lt
  · exact ho.lt e
theorem WrAt.fresh {w : World} {g : Nat} {A : Option Addr} {xs : List UInt8} (h : WrAt w g A xs) {z : Nat} (hz : w.heap.size ≤ z) (vs : List Value) : Apart (Wf g A) (some (⟨z, 0, none⟩ : Addr)) vs := by
  intro _ ad e hW
  injection e with e
  subst e
  have := h.old _ hW
  simp at this
  omega
theorem WrAt.chg {S : Nat → Prop} {w w' : World} {g : Nat} {A : Option Addr} {xs : List UInt8} (h : WrAt w g A xs) (hc : Chg S w w') (hS : ∀ k, Wf g A k → ¬ S k) : WrAt w' g A xs := by
  obtain ⟨⟨n, c, hn, hb, ho⟩, hf⟩ := h
  exact ⟨⟨n, c, hn, hb.chg hc (hS g (.inl rfl)), ho.chg hc (fun ad e => hS _ (.inr ⟨ad, e, rfl⟩))⟩, hf⟩
def is64 (vs : List Int) : List Value := vs.map (.int .i64)
theorem nilB (w : World) (a : Option Addr) (n c n' c' : Nat) : (binOp .eql 39 (.slice a n c) (.slice none n' c')).run Try.prog w = .ok (.bool a.isNone) w :=
  Lib.run_eql_slice_nil w 39 5 a n c n' c' Try.underlying39
attribute [local go_sem] nilB
def encRows (l : List Row) : List UInt8 := l.flatMap fun r => encRow r.p
def rowsSize : List Row → Nat
  | [] => 0
  | r :: l => r.p.length + 10 + rowsSize l
end Go.Proofs.Ytmijlojjkgeplaa
end
section
open Go Go.RowKit
namespace Go.Proofs.Ytmijlojjkgeplaa
end Go.Proofs.Ytmijlojjkgeplaa
end
section
open Go Go.RowKit
namespace Go.Proofs.Ytmijlojjkgeplaa
def flatH (l : List H32) : List UInt8 := l.flatMap (·.l)
def sigB (leaf : Int) (l p : List H32) : List UInt8 := encAll [leaf] ++ flatH l ++ flatH p
/-- what Encode answers -/
def EncPost (ok : Bool) (bytes : List UInt8) (w : World) : Ending → World → Prop := fun e w' => Step nowhere w w' ∧
  if ok then ∃ A n c, e = .returned (.tuple #[.slice A n c, .int .i64 0]) ∧ n = bytes.length ∧ HO w' 5 1 A n c (bs bytes) ∧ NewA w A
  else e = .returned (.tuple #[.slice none 0 0, .int .i64 1])
instance : ZeroT Try.prog 110 #[.slice none 0 0] := ⟨.agg #[.slice none 0 0], fun _ => by kernel_rfl, rfl⟩
end Go.Proofs.Ytmijlojjkgeplaa
end
section
open Go Go.RowKit
namespace Go.Proofs.Ytmijlojjkgeplaa
/-- what is left, and whether it erred -/
structure RS where
  b : List UInt8
  e : Bool
def RS.bad : RS := ⟨[], true⟩
def RS.ok (s : RS) : Prop := s.e = true → s.b = []
def parse (i acc : Nat) : List UInt8 → Option (Nat × List UInt8)
  | [] => none
  | c :: r =>
    if 9 ≤ i then none
    else if 128 ≤ c.toNat then parse (i + 1) (acc + c.toNat % 128 * 128 ^ i) r
    else if 4611686018427387904 < acc + c.toNat % 128 * 128 ^ i ∨ (c.toNat = 0 ∧ 0 < i) then none
    else some (acc + c.toNat % 128 * 128 ^ i, r)
def RS.num (s : RS) : Nat × RS := if s.e then (0, s) else match parse 0 0 s.b with
  | some (n, r) => (n, ⟨r, false⟩)
  | none => (0, RS.bad)
def RS.raw (s : RS) (n : Int) : List UInt8 × RS := if s.e ∨ n < 0 ∨ (s.b.length : Int) < n then ([], RS.bad) else (s.b.take n.toNat, ⟨s.b.drop n.toNat, false⟩)
def RS.row (s : RS) : List UInt8 × RS := s.num.2.raw s.num.1
/-- a Reader: its header at block g, its bytes in block d -/
structure RdrAt (w : World) (g d : Nat) (s : RS) : Prop where
  ex : ∃ A n c, n = s.b.length ∧ n ≤ c ∧ Blk w g 153 #[.slice A n c, .bool s.e] ∧ Rd w A (bs s.b) ∧ ∀ ad, A = some ad → s.b ≠ [] → ad.block = d
  ne : d ≠ g
  ok : s.ok
theorem RdrAt.chg {S : Nat → Prop} {w w' : World} {g d : Nat} {s : RS} (h : RdrAt w g d s) (hc : Chg S w w') (hg : ¬ S g) (hd : ¬ S d) : RdrAt w' g d s := by
  obtain ⟨⟨A, n, c, hn, hnc, hb, hr, hA⟩, hne, hok⟩ := h
  refine ⟨⟨A, n, c, hn, hnc, hb.chg hc hg, hr.chg hc (fun hv ad e hs => ?_), hA⟩, hne, hok⟩
  have := hA ad e (by rintro h; rw [h] at hv; exact hv rfl)
  rw [this] at hs
  exact hd hs
theorem RdrAt.lt {w : World} {g d : Nat} {s : RS} (h : RdrAt w g d s) : g < w.heap.size := by
  obtain ⟨⟨_, _, _, _, _, hb, _⟩, _⟩ := h
  exact hb.lt
end Go.Proofs.Ytmijlojjkgeplaa
end
section
open Go Go.RowKit
namespace Go.Proofs.Ytmijlojjkgeplaa
end Go.Proofs.Ytmijlojjkgeplaa
end
section
open Go Go.RowKit
namespace Go.Proofs.Ytmijlojjkgeplaa
end Go.Proofs.Ytmijlojjkgeplaa
end
section
open Go Go.RowKit
namespace Go.Proofs.Ytmijlojjkgeplaa
/-- the reference's Reader: its header at block g, its bytes in block d -/
structure RRAt (w : World) (g d : Nat) (s : RS) : Prop where
  ex : ∃ A n c, n = s.b.length ∧ n ≤ c ∧ Blk w g 121 #[.slice A n c, .bool s.e] ∧ Rd w A (bs s.b) ∧ ∀ ad, A = some ad → s.b ≠ [] → ad.block = d
  ne : d ≠ g
  ok : s.ok
theorem RRAt.chg {S : Nat → Prop} {w w' : World} {g d : Nat} {s : RS} (h : RRAt w g d s) (hc : Chg S w w') (hg : ¬ S g) (hd : ¬ S d) : RRAt w' g d s := by
  obtain ⟨⟨A, n, c, hn, hnc, hb, hr, hA⟩, hne, hok⟩ := h
  refine ⟨⟨A, n, c, hn, hnc, hb.chg hc hg, hr.chg hc (fun hv ad e hs => ?_), hA⟩, hne, hok⟩
  have := hA ad e (by rintro h; rw [h] at hv; exact hv rfl)
  rw [this] at hs
  exact hd hs
theorem RRAt.lt {w : World} {g d : Nat} {s : RS} (h : RRAt w g d s) : g < w.heap.size := by
  obtain ⟨⟨_, _, _, _, _, hb, _⟩, _⟩ := h
  exact hb.lt
end Go.Proofs.Ytmijlojjkgeplaa
end
section
open Go Go.RowKit
namespace Go.Proofs.Ytmijlojjkgeplaa
end Go.Proofs.Ytmijlojjkgeplaa
end
section
open Go Go.RowKit
namespace Go.Proofs.Ytmijlojjkgeplaa
def RS.hash (s : RS) : H32 := if h : (s.raw 32).1.length = 32 then ⟨(s.raw 32).1, h⟩ else zeroH
def RS.hAt (s : RS) : Nat → RS
  | 0 => s
  | k + 1 => ((s.hAt k).raw 32).2
def RS.hs (s : RS) : Nat → List H32
  | 0 => []
  | k + 1 => s.hs k ++ [(s.hAt k).hash]
theorem cellsOf_flat (l : List H32) : cellsOf l = bs (flatH l) := by
  induction l with
  | nil => rfl
  | cons h l ih =>
    show bs h.l ++ cellsOf l = bs (h.l ++ flatH l)
    rw [ih, bs_append]
theorem HO.whole {w : World} {e : TypeId} {z n : Nat} {l : List H32} (h : HO w e 32 (some ⟨z, 0, none⟩) n n (cellsOf l)) : HB w z e (u8s (flatH l)) := ⟨by
  rcases h.out.form with ⟨hn, _⟩ | ⟨g, cur, e1, hb, _, _, hsz, hx⟩
  · cases hn
  · injection e1 with e1
    injection e1 with e1
    subst e1
    have : cur = u8s (flatH l) := by
      apply Array.ext'
      rw [List.take_of_length_le (by rw [Array.length_toList, hsz]; exact Nat.le_refl _)] at hx
      rw [hx, cellsOf_flat]
      simp [u8s]
    rw [← this]
    exact hb⟩
section
variable {P : Program} {ops : Array Oper} {a : Act} {w : World} {dst : Option Tmp} {ty : TypeId} {pos : String} {after : Array Edge} {gd : Option (Nat × Bool)}
end
def gz (g z : Nat) : Nat → Prop := fun x => x = g ∨ x = z
instance (w : World) (g z : Nat) : Sub w (only g) (gz g z) := ⟨fun _ _ h => .inl h⟩
instance (w : World) (g z : Nat) : Sub w (only z) (gz g z) := ⟨fun _ _ h => .inr h⟩
/-- the digests that are taken, and noughts for those that are not yet -/
def curH (s : RS) (n k : Nat) : List H32 := s.hs k ++ List.replicate (n - k) zeroH
end Go.Proofs.Ytmijlojjkgeplaa
end
section
open Go Go.RowKit
namespace Go.Proofs.Ytmijlojjkgeplaa
def dS1 (b : List UInt8) : RS := (⟨b, false⟩ : RS).num.2
def dLeaf (b : List UInt8) : Nat := (⟨b, false⟩ : RS).num.1
def dL (b : List UInt8) : List H32 := (dS1 b).hs 36
def dP (b : List UInt8) : List H32 := ((dS1 b).hAt 36).hs 4
def dS (b : List UInt8) : RS := ((dS1 b).hAt 36).hAt 4
def dWhole (b : List UInt8) : Bool := !(dS b).e && decide ((dS b).b = [])
def dOk (b : List UInt8) : Bool := dWhole b && isS (dLeaf b) 36 4
/-- what Decode answers -/
def DecPost (b : List UInt8) (w : World) : Ending → World → Prop := fun e w' => Step nowhere w w' ∧
  if dOk b then ∃ A B c d, e = .returned (.tuple #[.agg #[.int .i64 (dLeaf b), .slice A 36 c, .slice B 4 d], .int .i64 0]) ∧ HO w' 23 32 A 36 c (cellsOf (dL b)) ∧ HO w' 23 32 B 4 d (cellsOf (dP b)) ∧ NewA w A ∧ NewA w B
  else e = .returned (.tuple #[.agg #[.int .i64 0, .slice none 0 0, .slice none 0 0], .int .i64 2])
end Go.Proofs.Ytmijlojjkgeplaa
end
