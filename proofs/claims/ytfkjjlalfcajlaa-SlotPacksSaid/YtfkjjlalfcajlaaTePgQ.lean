/- RowE, RfA, RfB, RfC, RfN, PgP, PgQ -/
import Derived.Test.YtfkjjlalfcajlaaTeOcSpec
import Derived.Test.YtfkjjlalfcajlaaTePgLong
import Derived.Test.YtfkjjlalfcajlaaTePlain
section
open Go Go.RowKit
namespace Go.Proofs.Ytfkjjlalfcajlaa
def gt {α : Type} [RowC α] (l : List α) (k : Nat) : α := l.getD k RowC.zero
section
variable {P : Program} {ops : Array Oper} {rest : List Oper} {a : Act} {w : World} {Q : Exit → Act → World → Prop} {dst : Option Tmp} {ty : TypeId} {pos : String} {after : Array Edge} {gd : Option (Nat × Bool)}
end
section
variable {P : Program} {ops : Array Oper} {rest : List Oper} {a : Act} {w : World} {Q : Exit → Act → World → Prop} {dst : Option Tmp} {ty : TypeId} {pos : String} {after : Array Edge}
end
end Go.Proofs.Ytfkjjlalfcajlaa
end
section
open Go Go.RowKit
namespace Go.Proofs.Ytfkjjlalfcajlaa
/-- what the reference's flash is -/
structure RFS where
  pgs : List (List UInt8)
  left : Int
  tear : Nat
  off : Bool
/-- its blocks: the struct, the table of its pages, each page -/
structure RFAt (w : World) (x : Nat) (A : Option Addr) (n c : Nat) (rows : List Row) (left : Int) (tear : Nat) (off : Bool) : Prop where
  head : Blk w x 60 #[.slice A n c, .int .i64 left, .int .i64 tear, .bool off]
  tab : Own w 28 1 A n c (cellsOf rows)
  num : rows.length = n
  each : ∀ r ∈ rows, Own w 5 1 r.A 64 r.c (bs r.p)
  len : ∀ r ∈ rows, r.p.length = 64
  tabx : OffB (rowOf A) x
  rowx : ∀ r ∈ rows, OffB (rowOf r.A) x
  rowt : ∀ r ∈ rows, OffA (rowOf r.A) A
  rows2 : ∀ i j, i < n → j < n → i ≠ j → OffA (rowOf (gt rows i).A) (gt rows j).A
  most : n ≤ 256
  torn : tear ≤ 64
def RF (w : World) (x : Nat) (T : Nat → Prop) (s : RFS) : Prop := ∃ (A : Option Addr) (n c : Nat) (rows : List Row), RFAt w x A n c rows s.left s.tear s.off ∧ rows.map Row.p = s.pgs ∧ T x ∧ (∀ k, rowOf A k → T k) ∧ ∀ r ∈ rows, ∀ k, rowOf r.A k → T k
theorem RFAt.chg {S : Nat → Prop} {w w' : World} {x : Nat} {A : Option Addr} {n c : Nat} {rows : List Row} {left : Int} {tear : Nat} {off : Bool} (h : RFAt w x A n c rows left tear off) (hc : Chg S w w') (hx : ¬ S x) (hA : ∀ k, rowOf A k → ¬ S k) (hr : ∀ r ∈ rows, ∀ k, rowOf r.A k → ¬ S k) : RFAt w' x A n c rows left tear off :=
  ⟨h.head.chg hc hx, h.tab.chg hc (fun ad e => hA _ ⟨ad, e, rfl⟩), h.num, fun r hm => (h.each r hm).chg hc (fun ad e => hr r hm _ ⟨ad, e, rfl⟩), h.len, h.tabx, h.rowx, h.rowt, h.rows2, h.most, h.torn⟩
theorem RF.far {S T : Nat → Prop} {w w' : World} {x : Nat} {s : RFS} (h : RF w x T s) (hc : Chg S w w') (hS : ∀ k, T k → ¬ S k) : RF w' x T s := by
  obtain ⟨A, n, c, rows, h1, h2, h3, h4, h5⟩ := h
  exact ⟨A, n, c, rows, h1.chg hc (hS _ h3) (fun k hk => hS k (h4 k hk)) (fun r hm k hk => hS k (h5 r hm k hk)), h2, h3, h4, h5⟩
theorem RF.calm {T : Nat → Prop} {w w' : World} {x : Nat} {s : RFS} (h : RF w x T s) (hc : Chg nowhere w w') : RF w' x T s := h.far hc (fun _ _ h => h)
/-- the reference's fuse: how many bytes are done, the answer, what it is then -/
def RFS.burn (s : RFS) : Nat × Nat × RFS := if s.left = 0 then (s.tear, 11, { s with off := true }) else if 0 < s.left then (64, 0, { s with left := s.left - 1 }) else (64, 0, s)
instance : CellT Try.prog 51 := ⟨fun _ => by kernel_rfl, fun _ => by kernel_rfl⟩
instance : CellT Try.prog 28 := ⟨fun _ => by kernel_rfl, fun _ => by kernel_rfl⟩
instance : CellT Try.prog 3 := ⟨fun _ => by kernel_rfl, fun _ => by kernel_rfl⟩
instance : CellT Try.prog 4 := ⟨fun _ => by kernel_rfl, fun _ => by kernel_rfl⟩
instance : CellT Try.prog 5 := ⟨fun _ => by kernel_rfl, fun _ => by kernel_rfl⟩
instance : RowT Try.prog 60 4 := ⟨by kernel_rfl, _, Try.underlying60, rfl⟩
instance : ElemT Try.prog 51 28 1 24 (.slice none 0 0) := ⟨⟨Try.underlying51, by kernel_rfl, rfl, by decide⟩⟩
instance : ElemT Try.prog 28 5 1 1 (.int .u8 0) := ⟨⟨Try.underlying28, by kernel_rfl, rfl, by decide⟩⟩
end Go.Proofs.Ytfkjjlalfcajlaa
end
section
open Go Go.RowKit
namespace Go.Proofs.Ytfkjjlalfcajlaa
section
variable {P : Program} {ops : Array Oper} {rest : List Oper} {a : Act} {w : World} {Q : Exit → Act → World → Prop} {dst : Option Tmp} {ty : TypeId} {pos : String} {after : Array Edge}
end
def RFS.pageN (s : RFS) (j : Nat) : List UInt8 := s.pgs.getD j []
/-- an act on a page of the reference's flash -/
def RFS.act (s : RFS) (i : Int) (m : Nat) (f : List UInt8 → Nat → List UInt8) : Nat × RFS :=
  if s.off = true then (11, s) else if i < 0 ∨ (s.pgs.length : Int) ≤ i ∨ 64 < m then (1, s)
  else (s.burn.2.1, { s.burn.2.2 with pgs := s.pgs.set i.toNat (f (s.pageN i.toNat) (min m s.burn.1)) })
def erF : List UInt8 → Nat → List UInt8 := fun pg k => List.replicate k 255 ++ pg.drop k
def prF (b : List UInt8) : List UInt8 → Nat → List UInt8 := fun pg k => fall (pg.take k) (b.take k) ++ pg.drop k
instance : Fact' (([] : List UInt8).length ≤ maxLen) := ⟨Nat.zero_le _⟩
end Go.Proofs.Ytfkjjlalfcajlaa
end
section
open Go Go.RowKit
namespace Go.Proofs.Ytfkjjlalfcajlaa
section
variable {P : Program} {ops : Array Oper} {rest : List Oper} {a : Act} {w : World} {Q : Exit → Act → World → Prop} {dst : Option Tmp} {ty : TypeId} {pos : String} {after : Array Edge} {gd : Option (Nat × Bool)}
end
end Go.Proofs.Ytfkjjlalfcajlaa
end
section
open Go Go.RowKit
namespace Go.Proofs.Ytfkjjlalfcajlaa
def zrowF (z : Nat) (A : Option Addr) : Nat → Prop := fun x => x = z ∨ rowOf A x
instance (w : World) (z : Nat) (A : Option Addr) : Sub w (only z) (zrowF z A) := ⟨fun _ _ h => .inl h⟩
instance (w : World) (z : Nat) (A : Option Addr) : Sub w (rowOf A) (zrowF z A) := ⟨fun _ _ h => .inr h⟩
instance (w : World) (z : Nat) (A : Option Addr) : Into w (only z) (zrowF z A) := ⟨fun _ _ h => .inl h⟩
instance (w : World) (z : Nat) (A : Option Addr) : Into w (rowOf A) (zrowF z A) := ⟨fun _ _ h => .inr h⟩
instance : ZeroT Try.prog 60 #[.slice none 0 0, .int .i64 0, .int .i64 0, .bool false] := ⟨.agg #[.slice none 0 0, .int .i64 0, .int .i64 0, .bool false], fun _ => by kernel_rfl, rfl⟩
theorem HR.ofBlkF {w : World} {z : Nat} {t : TypeId} {cs : Array Value} (h : HB w z t cs) : HR w (some ⟨z, 0, none⟩) cs.toList := ⟨fun k u hk => by
  refine ⟨_, rfl, ?_⟩
  rw [add_row, h.out.cell k]
  simpa using hk⟩
theorem rowRow {w : World} {z : Nat} {t : TypeId} {r : Row} (hl : r.p.length = 64) (h : HB w z t #[.slice r.A 64 r.c]) : HR w (some ⟨z, 0, none⟩) (cellsOf [r]) := by
  have h1 := HR.ofBlkF h
  have e : cellsOf [r] = (#[.slice r.A 64 r.c] : Array Value).toList := by
    show [Value.slice r.A r.p.length r.c] = _
    rw [hl]
  rw [e]
  exact h1
instance (priority := 700) OffA.ofBF (z : Nat) (A : Option Addr) [o : OffB (rowOf A) z] : OffA (only z) A := ⟨fun ad e h => o.out ⟨ad, e, h⟩⟩
instance OffA.growF (w : World) (A A' B : Option Addr) (e : TypeId) (size n c : Nat) (xs : List Value) [k : Grew w A A'] [h : HO w e size B n c xs] [o : OffA (rowOf B) A] : OffA (rowOf B) A' := ⟨fun ad ea ⟨bd, eb, hk⟩ => by
  rcases k.out with h1 | h1
  · rw [h1] at ea
    exact o.out ad ea ⟨bd, eb, hk⟩
  · rw [h1] at ea
    injection ea with ea
    have h2 := h.out.lt eb
    rw [hk, ← ea] at h2
    exact absurd h2 (Nat.lt_irrefl _)⟩
def RFS.fresh (N : Nat) : RFS := ⟨List.replicate N (ones 64), -1, 0, false⟩
end Go.Proofs.Ytfkjjlalfcajlaa
end
section
open Go Go.RowKit
namespace Go.Proofs.Ytfkjjlalfcajlaa
/-- the program's flash and the reference's are one -/
structure Rel (s : FS) (r : RFS) (N : Nat) : Prop where
  num : r.pgs.length = N
  page : ∀ j, j < N → r.pageN j = s.page j
  off : r.off = s.dead
  left : r.left = if s.fused = true then s.left else -1
  tear : r.tear = s.tear
theorem Rel.fresh (N : Nat) : Rel (FS.fresh N) (RFS.fresh N) N := by
  refine ⟨List.length_replicate, fun j hj => ?_, rfl, rfl, rfl⟩
  show (List.replicate N (ones 64)).getD j [] = ((ones (64 * N)).drop (j * 64)).take 64
  rw [List.getD_eq_getElem?_getD, List.getElem?_replicate, if_pos hj]
  show List.replicate 64 255 = _
  rw [ones, List.drop_replicate, List.take_replicate]
  congr 1
  omega
theorem Rel.fuse {s : FS} {r : RFS} {N : Nat} (h : Rel s r N) (n t : Int) : Rel { s with fused := decide (0 ≤ n), left := n, tear := (min (max t 0) 64).toNat } { r with left := max n (-1), tear := (min (max t 0) 64).toNat } N := by
  refine ⟨h.num, h.page, h.off, ?_, rfl⟩
  show max n (-1) = if decide (0 ≤ n) = true then n else -1
  by_cases hn : 0 ≤ n
  · simp [hn]; omega
  · simp [hn]; omega
/-- a deed on the whole row does to one page what this does to the page -/
def Deals (f : Deed) (F : List UInt8 → Nat → List UInt8) (N m : Nat) : Prop := ∀ (s : FS) (i k : Nat), s.pages.length = 64 * s.cap → N ≤ s.cap → i < N → k ≤ m → k ≤ 64 → ({ s with pages := f s.pages (i * 64) k } : FS).page i = F (s.page i) k ∧ ∀ j, j < N → j ≠ i → ({ s with pages := f s.pages (i * 64) k } : FS).page j = s.page j
theorem pageN_set_same (r : RFS) (i : Nat) (p : List UInt8) (h : i < r.pgs.length) (l : Int) (t : Nat) (o : Bool) : (⟨r.pgs.set i p, l, t, o⟩ : RFS).pageN i = p := by
  simp [RFS.pageN, List.getD_eq_getElem?_getD, h]
theorem pageN_set_other (r : RFS) (i j : Nat) (p : List UInt8) (h : i ≠ j) (l : Int) (t : Nat) (o : Bool) : (⟨r.pgs.set i p, l, t, o⟩ : RFS).pageN j = r.pageN j := by
  simp [RFS.pageN, List.getD_eq_getElem?_getD, List.getElem?_set_ne h]
/-- an act gives the same answer in both, and leaves them one -/
theorem Rel.act {s : FS} {r : RFS} {N : Nat} (h : Rel s r N) (ok : s.ok N) (i : Int) (m : Nat) (f : Deed) (F : List UInt8 → Nat → List UInt8) (hd : Deals f F N m) :
    (s.change N i m f).1 = (r.act i m F).1 ∧ Rel (s.change N i m f).2 (r.act i m F).2 N := by
  unfold FS.change RFS.act
  rw [h.off]
  cases hdd : s.dead
  case true =>
    rw [if_pos (show true = true from rfl), if_pos (show true = true from rfl)]
    exact ⟨rfl, h⟩
  case false =>
    rw [if_neg (show ¬ (false = true) from Bool.false_ne_true), if_neg (show ¬ (false = true) from Bool.false_ne_true), h.num]
    by_cases hb : i < 0 ∨ (N : Int) ≤ i ∨ 64 < m
    · rw [if_pos hb, if_pos hb]
      exact ⟨rfl, h⟩
    · rw [if_neg hb, if_neg hb]
      have hm : m ≤ 64 := by omega
      have hi : i.toNat < N := by omega
      have hlen := ok.len
      have hN := ok.fit
      have htr := ok.tear
      obtain ⟨d1, d2⟩ := hd s i.toNat (min m s.tear) hlen hN hi (by omega) (by omega)
      obtain ⟨e1, e2⟩ := hd s i.toNat m hlen hN hi (Nat.le_refl _) hm
      have hpi := h.page i.toNat hi
      have hir : i.toNat < r.pgs.length := by rw [h.num]; exact hi
      have hleft := h.left
      have hmm : min m 64 = m := Nat.min_eq_left hm
      cases hf : s.fused
      case false =>
        rw [hf] at hleft
        have hl1 : r.left = -1 := hleft
        have hb1 : s.burn = (false, s) := by unfold FS.burn; rw [if_pos hf]
        have hb2 : r.burn = (64, 0, r) := by unfold RFS.burn; rw [if_neg (by omega), if_neg (by omega)]
        rw [hb1, hb2, if_neg (show ¬ ((false, s).1 = true) from Bool.false_ne_true)]
        refine ⟨rfl, ?_, fun j hj => ?_, h.off, ?_, h.tear⟩
        · show (r.pgs.set _ _).length = N
          rw [List.length_set, h.num]
        · by_cases hji : j = i.toNat
          · subst hji
            exact (pageN_set_same r _ _ hir _ _ _).trans (by rw [hpi]; show F _ (min m 64) = _; rw [hmm]; exact e1.symm)
          · exact ((pageN_set_other r _ _ _ (fun e => hji e.symm) _ _ _).trans (h.page j hj)).trans (e2 j hj hji).symm
        · show r.left = if s.fused = true then s.left else -1
          rw [hf, hl1]
          rfl
      case true =>
        rw [hf, if_pos (show true = true from rfl)] at hleft
        have hlo := (ok.left hf).1
        by_cases hz : s.left = 0
        · have hb1 : s.burn = (true, s) := by unfold FS.burn; rw [if_neg (by rw [hf]; decide), if_pos hz]
          have hb2 : r.burn = (r.tear, 11, { r with off := true }) := by unfold RFS.burn; rw [if_pos (by rw [hleft]; exact hz)]
          rw [hb1, hb2, if_pos (show (true, s).1 = true from rfl)]
          refine ⟨rfl, ?_, fun j hj => ?_, rfl, ?_, h.tear⟩
          · show (r.pgs.set _ _).length = N
            rw [List.length_set, h.num]
          · by_cases hji : j = i.toNat
            · subst hji
              exact (pageN_set_same r _ _ hir _ _ _).trans (by rw [hpi]; show F _ (min m r.tear) = _; rw [h.tear]; exact d1.symm)
            · exact ((pageN_set_other r _ _ _ (fun e => hji e.symm) _ _ _).trans (h.page j hj)).trans (d2 j hj hji).symm
          · show r.left = if s.fused = true then s.left else -1
            rw [hf, hleft]
            rfl
        · have hb1 : s.burn = (false, { s with left := s.left - 1 }) := by unfold FS.burn; rw [if_neg (by rw [hf]; decide), if_neg hz]
          have hb2 : r.burn = (64, 0, { r with left := r.left - 1 }) := by unfold RFS.burn; rw [if_neg (by rw [hleft]; exact hz), if_pos (by rw [hleft]; omega)]
          rw [hb1, hb2, if_neg (show ¬ ((false, ({ s with left := s.left - 1 } : FS)).1 = true) from Bool.false_ne_true)]
          refine ⟨rfl, ?_, fun j hj => ?_, h.off, ?_, h.tear⟩
          · show (r.pgs.set _ _).length = N
            rw [List.length_set, h.num]
          · by_cases hji : j = i.toNat
            · subst hji
              exact (pageN_set_same r _ _ hir _ _ _).trans (by rw [hpi]; show F _ (min m 64) = _; rw [hmm]; exact e1.symm)
            · exact ((pageN_set_other r _ _ _ (fun e => hji e.symm) _ _ _).trans (h.page j hj)).trans (e2 j hj hji).symm
          · show r.left - 1 = if s.fused = true then s.left - 1 else -1
            rw [hf, hleft]
            rfl
end Go.Proofs.Ytfkjjlalfcajlaa
end
section
open Go Go.RowKit
namespace Go.Proofs.Ytfkjjlalfcajlaa
instance : RowC ActS := ⟨5, ActS.cells, fun _ => rfl, fun a u hu => by
  simp only [ActS.cells, List.mem_cons, List.not_mem_nil, or_false] at hu
  rcases hu with rfl | rfl | rfl | rfl | rfl <;> rfl, ⟨0, 0, none, 0, [], 0, 0⟩⟩
/-- what an act writes of old -/
def PT (g p : Nat) (T : Nat → Prop) : Nat → Prop := fun k => Two g p k ∨ T k
instance (w : World) (g p : Nat) (T : Nat → Prop) : Sub w (Two g p) (PT g p T) := ⟨fun _ _ h => .inl h⟩
instance (w : World) (g p : Nat) (T : Nat → Prop) : Sub w T (PT g p T) := ⟨fun _ _ h => .inr h⟩
instance (w : World) (g p : Nat) (T : Nat → Prop) : Into w (Two g p) (PT g p T) := ⟨fun _ _ h => .inl h⟩
instance (w : World) (g p : Nat) (T : Nat → Prop) : Into w T (PT g p T) := ⟨fun _ _ h => .inr h⟩
instance (w : World) (T : Nat → Prop) : Into w T T := ⟨fun _ _ h => h⟩
theorem FlashAt.lts {w : World} {g p N : Nat} {s : FS} (h : FlashAt w g p N s) : g < w.heap.size ∧ p < w.heap.size := ⟨h.head.lt, Blk.lt h.body⟩
def ActPost (g p N x : Nat) (T : Nat → Prop) (w w' : World) (e : Ending) : Prop := e = .returned (.bool true) ∧ ∃ s' r', FlashAt w' g p N s' ∧ RF w' x T r' ∧ Rel s' r' N ∧ Chg (PT g p T) w w'
end Go.Proofs.Ytfkjjlalfcajlaa
end
