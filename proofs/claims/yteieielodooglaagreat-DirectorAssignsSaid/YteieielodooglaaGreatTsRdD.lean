/- RdA, RdB, RdC, WtA, RdN, WtB, WtC, RdD -/
import Derived.Test.YteieielodooglaaGreatTsOcW
import Derived.Test.YteieielodooglaaGreatTsWsB
section
open Go Go.RowKit
namespace Go.Proofs.YteieielodooglaaGreat
/-- what is left, and whether it erred -/
structure RS where
  b : List UInt8
  e : Bool
def RS.bad : RS := ⟨[], true⟩
def RS.ok (s : RS) : Prop := s.e = true → s.b = []
def parse (i acc : Nat) : List UInt8 → Option (Nat × List UInt8)
  | [] => none
  | c :: r =>
    if 9 ≤ i then none
    else if 128 ≤ c.toNat then parse (i + 1) (acc + c.toNat % 128 * 128 ^ i) r
    else if 4611686018427387904 < acc + c.toNat % 128 * 128 ^ i ∨ (c.toNat = 0 ∧ 0 < i) then none
    else some (acc + c.toNat % 128 * 128 ^ i, r)
def RS.num (s : RS) : Nat × RS := if s.e then (0, s) else match parse 0 0 s.b with
  | some (n, r) => (n, ⟨r, false⟩)
  | none => (0, RS.bad)
def RS.raw (s : RS) (n : Int) : List UInt8 × RS := if s.e ∨ n < 0 ∨ (s.b.length : Int) < n then ([], RS.bad) else (s.b.take n.toNat, ⟨s.b.drop n.toNat, false⟩)
def RS.row (s : RS) : List UInt8 × RS := s.num.2.raw s.num.1
/-- a Reader: its header at block g, its bytes in block d -/
structure RdrAt (w : World) (g d : Nat) (s : RS) : Prop where
  ex : ∃ A n c, n = s.b.length ∧ n ≤ c ∧ Blk w g 260 #[.slice A n c, .bool s.e] ∧ Rd w A (bs s.b) ∧ ∀ ad, A = some ad → s.b ≠ [] → ad.block = d
  ne : d ≠ g
  ok : s.ok
theorem RdrAt.chg {S : Nat → Prop} {w w' : World} {g d : Nat} {s : RS} (h : RdrAt w g d s) (hc : Chg S w w') (hg : ¬ S g) (hd : ¬ S d) : RdrAt w' g d s := by
  obtain ⟨⟨A, n, c, hn, hnc, hb, hr, hA⟩, hne, hok⟩ := h
  refine ⟨⟨A, n, c, hn, hnc, hb.chg hc hg, hr.chg hc (fun hv ad e hs => ?_), hA⟩, hne, hok⟩
  have := hA ad e (by rintro h; rw [h] at hv; exact hv rfl)
  rw [this] at hs
  exact hd hs
theorem RdrAt.chg2 {S : Nat → Prop} {w w' : World} {g d : Nat} {s : RS} (h : RdrAt w g d s) (hc : Chg S w w') (hg : ¬ S g) (hd : s.b ≠ [] → ¬ S d) : RdrAt w' g d s := by
  obtain ⟨⟨A, n, c, hn, hnc, hb, hr, hA⟩, hne, hok⟩ := h
  refine ⟨⟨A, n, c, hn, hnc, hb.chg hc hg, hr.chg hc (fun hv ad e hs => ?_), hA⟩, hne, hok⟩
  have hs0 : s.b ≠ [] := by rintro h; rw [h] at hv; exact hv rfl
  have := hA ad e hs0
  rw [this] at hs
  exact hd hs0 hs
theorem RdrAt.lt {w : World} {g d : Nat} {s : RS} (h : RdrAt w g d s) : g < w.heap.size := by
  obtain ⟨⟨_, _, _, _, _, hb, _⟩, _⟩ := h
  exact hb.lt
end Go.Proofs.YteieielodooglaaGreat
end
section
open Go Go.RowKit
namespace Go.Proofs.YteieielodooglaaGreat
end Go.Proofs.YteieielodooglaaGreat
end
section
open Go Go.RowKit
namespace Go.Proofs.YteieielodooglaaGreat
theorem RS.num_le (s : RS) : s.num.2.b.length ≤ s.b.length := by
  have key : ∀ (l : List UInt8) i acc n r, parse i acc l = some (n, r) → r.length ≤ l.length := by
    intro l
    induction l with
    | nil => intro i acc n r h; rw [parse] at h; cases h
    | cons b l ih =>
      intro i acc n r h
      rw [parse] at h
      split at h
      · cases h
      · split at h
        · have := ih _ _ _ _ h; simp; omega
        · split at h
          · cases h
          · injection h with h; injection h with h1 h2; subst h2; simp
  unfold RS.num
  split
  · exact Nat.le_refl _
  · split
    · rename_i n r h
      exact key _ _ _ _ _ h
    · simp [RS.bad]
end Go.Proofs.YteieielodooglaaGreat
end
section
open Go Go.RowKit
namespace Go.Proofs.YteieielodooglaaGreat
instance iWtA_1 : ZeroT Tryz.prog 23 (u8s zeroH.l) := ⟨.agg (u8s zeroH.l), fun _ => by kernel_rfl, rfl⟩
def RS.hsh (s : RS) : H32 := if h : (s.raw 32).1.length = 32 then ⟨(s.raw 32).1, h⟩ else zeroH
section
variable {P : Program} {ops : Array Oper} {a : Act} {w : World} {dst : Option Tmp} {ty : TypeId} {pos : String} {after : Array Edge} {gd : Option (Nat × Bool)}
end
def gz2 (g z : Nat) : Nat → Prop := fun x => x = g ∨ x = z
instance (w : World) (g z : Nat) : Sub w (only g) (gz2 g z) := ⟨fun _ _ h => .inl h⟩
instance (w : World) (g z : Nat) : Sub w (only z) (gz2 g z) := ⟨fun _ _ h => .inr h⟩
instance (w : World) (g z : Nat) : Into w (only g) (gz2 g z) := ⟨fun _ _ h => .inl h⟩
instance (w : World) (g z : Nat) : Into w (only z) (gz2 g z) := ⟨fun _ _ h => .inr h⟩
end Go.Proofs.YteieielodooglaaGreat
end
section
open Go Go.RowKit
namespace Go.Proofs.YteieielodooglaaGreat
/-- the reader behind so many numbers -/
def RS.at (s : RS) : Nat → RS
  | 0 => s
  | k + 1 => (s.at k).num.2
def ptrs (ps : List (Option Addr)) : List Value := ps.map .pointer
/-- what a block holds when k numbers have been laid into their places -/
def putN (z : Nat) (ps : List (Option Addr)) (s : RS) : Nat → Array Value → Array Value
  | 0, cs => cs
  | k + 1, cs => match ps[k]? with
    | some (some ad) => if ad.block = z then (putN z ps s k cs).setIfInBounds ad.off (.int .i64 (s.at k).num.1) else putN z ps s k cs
    | _ => putN z ps s k cs
def NumsS (g : Nat) (ps : List (Option Addr)) : Nat → Prop := fun x => x = g ∨ ∃ ad, some ad ∈ ps ∧ ad.block = x
end Go.Proofs.YteieielodooglaaGreat
end
section
open Go Go.RowKit
namespace Go.Proofs.YteieielodooglaaGreat
instance iWtB_1 : ZeroT Tryz.prog 94 (timL 0 0 0 zeroH).toArray := ⟨.agg (timL 0 0 0 zeroH).toArray, fun _ => by kernel_rfl, rfl⟩
section
variable {P : Program} {ops : Array Oper} {rest : List Oper} {a : Act} {w : World} {Q : Exit → Act → World → Prop} {dst : Option Tmp} {ty : TypeId} {pos : String} {after : Array Edge}
/-- a part of a block written, whole -/
theorem wpl_storepart {t : TypeId} {x y : Operand} {g k n : Nat} {vs : Array Value} (hx : a.eval x = .pointer (some ⟨g, k, none⟩)) (hy : a.eval y = .agg vs) {tb : TypeId} {cs : Array Value} (hb : HB w g tb cs) (ht : RowT P t n) (hn : vs.size = n) (hn0 : 0 < n) (hk : k + n ≤ cs.size) (hone : vs.all (·.oneCell') = true) {cs' : Array Value} (hcs : cs.toList.take k ++ vs.toList ++ cs.toList.drop (k + n) = cs'.toList)
    (h : ∀ w', Step (only g) w w' → HB w' g tb cs' → wpList P ops Q rest (a.put dst undef) w') : wpList P ops Q (⟨dst, .store t x y, ty, pos, after, none⟩ :: rest) a w := by
  have ho : Own w tb cs.size (some ⟨g, 0, none⟩) 1 1 cs.toList :=
    Own.of_blk hb.out (Nat.le_refl _) (by decide) (by simp) (by rw [Nat.one_mul, List.take_of_length_le (by simp)])
  obtain ⟨g', hA, h1, h2, h3⟩ := own_setCells ho (k := k) (cs := vs.toList) (m := n) (by simpa using hn) (by simpa using hk) hn0
  obtain rfl : g' = g := by injection hA with hA; injection hA with hA; exact hA.symm
  rw [hcs] at h2
  refine wpl_of_unit rfl (w' := w.setCells g' k vs.toList) ?_ (h _ ⟨⟨h3.os, h3.tape, h3.output, h3.size, fun x hx hn => h3.block x hx (fun ⟨ad, e, e2⟩ => hn (by injection e with e; subst e; exact e2.symm))⟩⟩ ⟨?_⟩)
  · show ((Instr.storeAt t (a.eval x) (a.eval y)) >>= fun _ => pure Next.skip).run P w = _
    rw [hx, hy, Sem.run_bind, run_storeAt_mid (P := P) w g' k t vs (by rw [hn]; exact h1) (by rw [hn]; exact ht.size) hone]
    rfl
  · have hl2 : cs'.size = cs.size := by
      have := congrArg List.length hcs
      simp at this
      omega
    rcases h2.form with ⟨hn, _⟩ | ⟨g3, cur, e, hb2, _, _, hsz, htk⟩
    · cases hn
    · injection e with e
      injection e with e
      subst e
      have : cur = cs' := by
        apply Array.ext'
        rw [List.take_of_length_le (by rw [Array.length_toList, hsz]; exact Nat.le_refl _)] at htk
        exact htk
      rw [← this]
      exact hb2
end
/-- the numbers of a time, and its digest, as they are taken -/
def tV (s : RS) : Nat := s.num.1
def tE (s : RS) : Nat := (s.at 1).num.1
def tS (s : RS) : Nat := (s.at 2).num.1
def tH (s : RS) : H32 := (s.at 3).hsh
def tR (s : RS) : RS := ((s.at 3).raw 32).2
end Go.Proofs.YteieielodooglaaGreat
end
section
open Go Go.RowKit
namespace Go.Proofs.YteieielodooglaaGreat
/-- what is left behind the kind -/
def kindS (kind : Nat) (b : List UInt8) : RS := if (⟨b, false⟩ : RS).num.1 = kind then (⟨b, false⟩ : RS).num.2 else RS.bad
def wholeB (s : RS) : Bool := !s.e && decide (s.b = [])
def tOk (b : List UInt8) : Bool := wholeB (tR (kindS 2 b)) && timB (tV (kindS 2 b)) (tE (kindS 2 b)) (tS (kindS 2 b))
/-- what is decoded -/
def timD (b : List UInt8) : Array Value := (timL (tV (kindS 2 b)) (tE (kindS 2 b)) (tS (kindS 2 b)) (tH (kindS 2 b))).toArray
def DecT (b : List UInt8) (w : World) : Ending → World → Prop := fun e w' => Step nowhere w w' ∧ e = .returned (if tOk b then .tuple #[.agg (timD b), .int .i64 0] else .tuple #[.agg (timL 0 0 0 zeroH).toArray, .int .i64 2])
end Go.Proofs.YteieielodooglaaGreat
end
section
open Go Go.RowKit
namespace Go.Proofs.YteieielodooglaaGreat
end Go.Proofs.YteieielodooglaaGreat
end
