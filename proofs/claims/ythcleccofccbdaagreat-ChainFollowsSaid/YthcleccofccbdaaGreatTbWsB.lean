/- Byte, WrA, WrB, WrC, WrD, RoA, WnA, WnB, WsA, WsB -/
import Derived.Test.YthcleccofccbdaaGreatTbBase
import Derived.Test.YthcleccofccbdaaGreatTbOcRfC
import Derived.Test.YthcleccofccbdaaGreatTbOcW
import Derived.Test.YthcleccofccbdaaGreatTbUnC
import Derived.Test.YthcleccofccbdaaGreatTbRowE
import Derived.Laws.IdiomStrings
section
open Go Go.RowKit
namespace Go.Proofs.YthcleccofccbdaaGreat
section
variable {P : Program} {ops : Array Oper} {rest : List Oper} {a : Act} {w : World} {Q : Exit → Act → World → Prop} {dst : Option Tmp} {ty : TypeId} {pos : String} {after : Array Edge} {gd : Option (Nat × Bool)}
end
end Go.Proofs.YthcleccofccbdaaGreat
end
section
open Go Go.RowKit
namespace Go.Proofs.YthcleccofccbdaaGreat
/-- fv is a closure that lays ys, whatever Writer it is handed, as long as the blocks T stand as in w -/
structure Lays (w : World) (T : Nat → Prop) (fv : Value) (ys : List UInt8) : Prop where
  low : ∀ x, T x → x < w.heap.size
  run : ∃ f caps, fv = .func (.func f) #[] caps ∧ (∀ args w2, (callFunc f args).run Tryz.prog w2 = .ok (.enter f args) w2) ∧ ∀ w1 g A xs, Chg (fun x => ¬ T x) w w1 → WrAt w1 g A xs → (∀ x, Wf g A x → ¬ T x) → xs.length + ys.length ≤ 1000000000 →
    Calls Tryz.prog f (#[.pointer (some ⟨g, 0, none⟩)] ++ caps) w1 fun e w' => e = .returned (.tuple #[]) ∧ ∃ A', WrAt w' g A' (xs ++ ys) ∧ Chg (Wf g A) w1 w' ∧ Moved w1 A A'
theorem Lays.later {w w' : World} {T S : Nat → Prop} {fv : Value} {ys : List UInt8} (h : Lays w T fv ys) (hc : Chg S w w') (hS : ∀ x, T x → ¬ S x) : Lays w' T fv ys := by
  obtain ⟨f, caps, e, hent, hrun⟩ := h.run
  refine ⟨fun x hx => Nat.lt_of_lt_of_le (h.low x hx) hc.size, f, caps, e, hent, fun w1 g A xs h1 h2 h3 h4 => hrun w1 g A xs ?_ h2 h3 h4⟩
  exact (hc.mono (fun x _ hk hT => hS x hT hk)).trans h1 (fun _ _ hk => hk)
end Go.Proofs.YthcleccofccbdaaGreat
end
section
open Go Go.RowKit
namespace Go.Proofs.YthcleccofccbdaaGreat
structure Fld where
  fv : Value
  T : Nat → Prop
  ys : List UInt8
def fvs (l : List Fld) : List Value := l.map (·.fv)
def allYs (l : List Fld) : List UInt8 := l.flatMap (·.ys)
def gf (l : List Fld) (k : Nat) : Fld := l.getD k ⟨.nilFunc, nowhere, []⟩
end Go.Proofs.YthcleccofccbdaaGreat
end
section
open Go Go.RowKit
namespace Go.Proofs.YthcleccofccbdaaGreat
theorem HB.rdL {w : World} {z : Nat} {t : TypeId} {cs : Array Value} (h : HB w z t cs) : Rd w (some ⟨z, 0, none⟩) cs.toList := fun k u hk => by
  refine ⟨_, rfl, ?_⟩
  rw [add_row, h.out.cell k]
  simpa using hk
/-- a closure of one function -/
def fnV (f : FuncId) (caps : Array Value) : Value := .func (.func f) #[] caps
end Go.Proofs.YthcleccofccbdaaGreat
end
section
open Go Go.RowKit
namespace Go.Proofs.YthcleccofccbdaaGreat
section
variable {P : Program} {ops : Array Oper} {a : Act} {w : World} {dst : Option Tmp} {ty : TypeId} {pos : String} {after : Array Edge} {gd : Option (Nat × Bool)}
end
def timL (v e s : Int) (h : H32) : List Value := .int .i64 v :: .int .i64 e :: .int .i64 s :: bs h.l
theorem run_int1 (a : Int) (w : World) : (Instr.buildSlice 167 1 #[(0, .int .i64 a)]).run Tryz.prog w = .ok (.slice (some ⟨w.heap.size, 0, none⟩) 1 1) (w.alloc (.cells #[.int .i64 a] 3)) := by kernel_rfl
theorem run_int3 (a b c : Int) (w : World) : (Instr.buildSlice 167 3 #[(0, .int .i64 a), (1, .int .i64 b), (2, .int .i64 c)]).run Tryz.prog w = .ok (.slice (some ⟨w.heap.size, 0, none⟩) 3 3) (w.alloc (.cells #[.int .i64 a, .int .i64 b, .int .i64 c] 3)) := by kernel_rfl
def numB (n : Int) : Bool := decide (0 ≤ n) && decide (n ≤ 1073741824)
def verB (n : Int) : Bool := decide (1 ≤ n) && decide (n ≤ 1073741824)
theorem number_calls (n : Int) (w : World) : Calls Tryz.prog 87 #[.int .i64 n] w fun e w' => e = .returned (.bool (numB n)) ∧ Step nowhere w w' := by
  by_cases h1 : 0 ≤ n
  · by_cases h2 : n ≤ 1073741824
    · have e : numB n = true := by simp [numB, h1, h2]
      rw [e]
      clear e
      go_enter Tryz.func87, Tryz.ntmps87
      go_wp2_with fail
      go_ret
      exact ⟨rfl, stepN⟩
    · have e : numB n = false := by simp [numB, h2]
      rw [e]
      clear e
      go_enter Tryz.func87, Tryz.ntmps87
      go_wp2_with fail
      go_ret
      exact ⟨rfl, stepN⟩
  · have e : numB n = false := by simp [numB, h1]
    rw [e]
    clear e
    go_enter Tryz.func87, Tryz.ntmps87
    go_wp2_with fail
    go_ret
    exact ⟨rfl, stepN⟩
theorem version_calls (n : Int) (w : World) : Calls Tryz.prog 86 #[.int .i64 n] w fun e w' => e = .returned (.bool (verB n)) ∧ Step nowhere w w' := by
  by_cases h1 : 1 ≤ n
  · by_cases h2 : n ≤ 1073741824
    · have e : verB n = true := by simp [verB, h1, h2]
      rw [e]
      clear e
      go_enter Tryz.func86, Tryz.ntmps86
      go_wp2_with fail
      go_ret
      exact ⟨rfl, stepN⟩
    · have e : verB n = false := by simp [verB, h2]
      rw [e]
      clear e
      go_enter Tryz.func86, Tryz.ntmps86
      go_wp2_with fail
      go_ret
      exact ⟨rfl, stepN⟩
  · have e : verB n = false := by simp [verB, h1]
    rw [e]
    clear e
    go_enter Tryz.func86, Tryz.ntmps86
    go_wp2_with fail
    go_ret
    exact ⟨rfl, stepN⟩
def timB (v e s : Int) : Bool := verB v && numB e && verB s
/-- what encode answers -/
def EncPost (ok : Bool) (bytes : List UInt8) (w : World) : Ending → World → Prop := fun e w' => Step nowhere w w' ∧
  if ok then ∃ A n c, e = .returned (.tuple #[.slice A n c, .int .i64 0]) ∧ n = bytes.length ∧ HO w' 5 1 A n c (bs bytes) ∧ NewA w A
  else e = .returned (.tuple #[.slice none 0 0, .int .i64 1])
end Go.Proofs.YthcleccofccbdaaGreat
end
section
open Go Go.RowKit
namespace Go.Proofs.YthcleccofccbdaaGreat
/-- keys, and what their row holds -/
structure KR where
  A : Option Addr
  n : Nat
  c : Nat
  l : List H32
  need : Int
def KR.m (k : KR) : List H32 × Int := (k.l, k.need)
instance rowCKR : RowC KR := ⟨2, fun k => [.slice k.A k.n k.c, .int .i64 k.need], fun _ => rfl, fun k u hu => by
  simp only [List.mem_cons, List.not_mem_nil, or_false] at hu
  rcases hu with rfl | rfl <;> rfl, ⟨none, 0, 0, [], 0⟩⟩
structure KIn (w : World) (k : KR) : Prop where
  rd : Rd w k.A (cellsOf k.l)
  len : k.l.length = k.n
  cap : k.n ≤ k.c
  le : k.n ≤ 1000
theorem KIn.nw {w0 w : World} [n : Nw w0 w] {k : KR} (h : KIn w0 k) : KIn w k := ⟨h.rd.chg n.out (fun _ _ _ h => h), h.len, h.cap, h.le⟩
/-- the blocks that a row of digests lies in -/
def inRow (A : Option Addr) (l : List H32) : Nat → Prop := fun x => cellsOf l ≠ [] ∧ rowOf A x
theorem KIn.chg {S : Nat → Prop} {w0 w : World} {k : KR} (h : KIn w0 k) (hc : Chg S w0 w) (hS : ∀ x, inRow k.A k.l x → ¬ S x) : KIn w k := ⟨h.rd.chg hc (fun hne ad e hk => hS _ ⟨hne, ad, e, rfl⟩ hk), h.len, h.cap, h.le⟩
theorem KIn.low {w : World} {k : KR} (h : KIn w k) (x : Nat) (hx : inRow k.A k.l x) : x < w.heap.size := by
  obtain ⟨hne, ad, e, hk⟩ := hx
  rw [← hk]
  exact rd_lt h.rd hne e
instance elemKR : ElemT Tryz.prog 106 42 2 32 (.agg #[.slice none 0 0, .int .i64 0]) := ⟨⟨Tryz.underlying106, by kernel_rfl, rfl, by decide⟩⟩
instance rowTKeys : RowT Tryz.prog 42 2 := ⟨by kernel_rfl, _, Tryz.underlying42, rfl⟩
instance rowTRoot : RowT Tryz.prog 45 10 := ⟨by kernel_rfl, _, Tryz.underlying45, rfl⟩
instance cellKRs : CellT Tryz.prog 106 := ⟨fun _ => by kernel_rfl, fun _ => by kernel_rfl⟩
/-- a root's cells -/
def rtL (v e : Int) (K : List KR) : List Value := .int .i64 v :: .int .i64 e :: cellsOf K
theorem rtL_len (v e : Int) (K : List KR) (h : K.length = 4) : (rtL v e K).toArray.size = 10 := by
  show (rtL v e K).length = 10
  have h1 := cellsOf_len K
  rw [h] at h1
  have h2 : (cellsOf K).length = 8 := h1
  simp [rtL, h2]
theorem rtL_one (v e : Int) (K : List KR) : (rtL v e K).toArray.all (·.oneCell') = true := by
  rw [Array.all_eq_true_iff_forall_mem]
  intro u hu
  have hu' : u ∈ rtL v e K := by simpa using hu
  rcases List.mem_cons.1 hu' with rfl | hu'
  · rfl
  rcases List.mem_cons.1 hu' with rfl | hu'
  · rfl
  exact cellsOf_one K u hu'
def noKR : KR := ⟨none, 0, 0, [], 0⟩
def noK : List KR := [noKR, noKR, noKR, noKR]
theorem noKIn (w : World) : ∀ k ∈ noK, KIn w k := by
  intro k hk
  simp only [noK, List.mem_cons, List.not_mem_nil, or_false] at hk
  have : k = noKR := by rcases hk with h | h | h | h <;> exact h
  subst this
  exact ⟨Rd.nil _ _, rfl, Nat.le_refl _, by decide⟩
instance zeroRoot : ZeroT Tryz.prog 45 (rtL 0 0 noK).toArray := ⟨.agg (rtL 0 0 noK).toArray, fun _ => by kernel_rfl, rfl⟩
theorem root_tail {w : World} {z : Nat} {v e0 : Int} {K : List KR} {t : TypeId} (hb : HB w z t (rtL v e0 K).toArray) : HR w (some ⟨z, 2, none⟩) (cellsOf K) := ⟨by
  have h1 : Rd w (some ⟨z, 0, none⟩) (rtL v e0 K) := fun k u hk => by
    refine ⟨_, rfl, ?_⟩
    rw [add_row, hb.out.cell k]
    simpa using hk
  have h2 := h1.drop 2
  simpa [Addr.add, rtL] using h2⟩
section
variable {P : Program} {ops : Array Oper} {rest : List Oper} {a : Act} {w : World} {Q : Exit → Act → World → Prop} {dst : Option Tmp} {ty : TypeId} {pos : String} {after : Array Edge} {gd : Option (Nat × Bool)}
/-- an array of structs within a block as a slice -/
theorem ev_sl_arrS {t e : TypeId} {x : Operand} {g k m : Nat} (hx : a.eval x = .pointer (some ⟨g, k, none⟩)) (hu : P.underlying t = some (.array m e)) (hs : (P.info? e).map (·.size) = some 2) :
    (execOp a.eval ⟨dst, .slice t x none none none, ty, pos, after, gd⟩).run P w = .ok (.value (.slice (some ⟨g, k, none⟩) m m)) w := by
  show ((Instr.sliceAt t (a.eval x) none none none) >>= fun v => pure (Next.value v)).run P w = _
  rw [hx]
  cases hq : P.info? e with
  | none => rw [hq] at hs; simp at hs
  | some j =>
    rw [hq] at hs
    simp at hs
    simp [Instr.sliceAt, run_underlying hu, Instr.sureAddr, Instr.sliceBounds, sizeOf, typeInfo, hq, add_zero_spot]
theorem wpl_sl_arrS {t e : TypeId} {x : Operand} {g k m : Nat} (hx : a.eval x = .pointer (some ⟨g, k, none⟩)) (hu : P.underlying t = some (.array m e)) (hs : (P.info? e).map (·.size) = some 2)
    (h : wpList P ops Q rest (a.put dst (.slice (some ⟨g, k, none⟩) m m)) w) : wpList P ops Q (⟨dst, .slice t x none none none, ty, pos, after, none⟩ :: rest) a w := wpl_of_run rfl (ev_sl_arrS hx hu hs) h
end
/-- what a maker of a field answers -/
def FldPost (w : World) (ys : List UInt8) (U : Nat → Prop) : Ending → World → Prop := fun e w' => ∃ f caps T, e = .returned (.func (.func f) #[] caps) ∧ Step nowhere w w' ∧ Lays w' T (.func (.func f) #[] caps) ys ∧ ∀ x, T x → w.heap.size ≤ x ∨ U x
end Go.Proofs.YthcleccofccbdaaGreat
end
section
open Go Go.RowKit
namespace Go.Proofs.YthcleccofccbdaaGreat
def goodB (b : UInt8) : Bool := (decide (97 ≤ b.toNat) && decide (b.toNat ≤ 122)) || (decide (48 ≤ b.toNat) && decide (b.toNat ≤ 57)) || decide (b.toNat = 45)
def nameL (l : List UInt8) : Bool := decide (1 ≤ l.length) && decide (l.length ≤ 12) && l.all goodB
section
variable {P : Program} {ops : Array Oper} {rest : List Oper} {a : Act} {w : World} {Q : Exit → Act → World → Prop} {dst : Option Tmp} {ty : TypeId} {pos : String} {after : Array Edge}
end
end Go.Proofs.YthcleccofccbdaaGreat
end
section
open Go Go.RowKit
namespace Go.Proofs.YthcleccofccbdaaGreat
section
variable {P : Program} {ops : Array Oper} {rest : List Oper} {a : Act} {w : World} {Q : Exit → Act → World → Prop} {dst : Option Tmp} {ty : TypeId} {pos : String} {after : Array Edge}
end
end Go.Proofs.YthcleccofccbdaaGreat
end
section
open Go Go.RowKit
namespace Go.Proofs.YthcleccofccbdaaGreat
instance iWsA_1 : CellT Tryz.prog 50 := ⟨fun _ => by kernel_rfl, fun _ => by kernel_rfl⟩
instance iWsA_2 : RowT Tryz.prog 52 3 := ⟨by kernel_rfl, _, Tryz.underlying52, rfl⟩
def snapV (v e : Int) : Array Value := #[.int .i64 v, .int .i64 e, .slice none 0 0]
def snapB (v e : Int) : Bool := verB v && numB e
end Go.Proofs.YthcleccofccbdaaGreat
end
section
open Go Go.RowKit
namespace Go.Proofs.YthcleccofccbdaaGreat
end Go.Proofs.YthcleccofccbdaaGreat
end
