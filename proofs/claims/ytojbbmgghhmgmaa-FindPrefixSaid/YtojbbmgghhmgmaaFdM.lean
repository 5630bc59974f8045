/- Maps in the walk; place and firsts. -/
import Derived.Test.YtojbbmgghhmgmaaFdF
open Go Go.RowKit
namespace Go.Proofs.Ytojbbmgghhmgmaa
class HMS (w : World) (g : Nat) (n : outParam Nat) (f : outParam (ByteArray → Option Int)) : Prop where
  out : MapSI Try.prog 9 3 w g n f
class HSI (w : World) (g : Nat) (n : outParam Nat) (f : outParam (Int → Bool)) : Prop where
  out : SetI Try.prog 3 w g n f
instance HMS.step (S : Nat → Prop) (w w' : World) (g n : Nat) (f : ByteArray → Option Int) [s : Step S w w'] [h : HMS w g n f] [o : OffB S g] : HMS w' g n f := ⟨h.out.chg s.chg o.out⟩
instance HSI.step (S : Nat → Prop) (w w' : World) (g n : Nat) (f : Int → Bool) [s : Step S w w'] [h : HSI w g n f] [o : OffB S g] : HSI w' g n f := ⟨h.out.chg s.chg o.out⟩
instance OffB.bornMS (w : World) (z g n : Nat) (f : ByteArray → Option Int) [b : Born w z] [h : HMS w g n f] : OffB (only z) g := ⟨fun e => by
  have e' : g = z := e
  have := h.out.lt
  rw [e', b.eq] at this
  omega⟩
instance OffB.bornSI (w : World) (z g n : Nat) (f : Int → Bool) [b : Born w z] [h : HSI w g n f] : OffB (only z) g := ⟨fun e => by
  have e' : g = z := e
  have := h.out.lt
  rw [e', b.eq] at this
  omega⟩
instance OffB.laterMS (w : World) (z g n : Nat) (f : ByteArray → Option Int) [b : Born w g] [h : HMS w z n f] : OffB (only z) g := ⟨fun e => by
  have e' : g = z := e
  have := h.out.lt
  rw [← e', b.eq] at this
  omega⟩
instance OffB.laterSI (w : World) (z g n : Nat) (f : Int → Bool) [b : Born w g] [h : HSI w z n f] : OffB (only z) g := ⟨fun e => by
  have e' : g = z := e
  have := h.out.lt
  rw [← e', b.eq] at this
  omega⟩
section
variable {ops : Array Oper} {rest : List Oper} {a : Act} {w : World} {Q : Exit → Act → World → Prop} {dst : Option Tmp} {ty : TypeId} {pos : String} {after : Array Edge}
theorem wpl_makeMS (h : ∀ g w', Born w g → Step nowhere w w' → HMS w' g 0 (fun _ => none) → wpList Try.prog ops Q rest (a.put dst (.map (some g))) w') :
    wpList Try.prog ops Q (⟨dst, .makeMap 93 none, ty, pos, after, none⟩ :: rest) a w :=
  wpl_of_run rfl (v := .map (some w.heap.size)) (w' := w.alloc (.map #[] 0)) (by
    show ((Instr.makeMap 93 none) >>= fun v => pure (Next.value v)).run Try.prog w = _
    rfl) (h _ _ ⟨rfl⟩ inferInstance ⟨MapSI.made w⟩)
theorem wpl_makeSI (h : ∀ g w', Born w g → Step nowhere w w' → HSI w' g 0 (fun _ => false) → wpList Try.prog ops Q rest (a.put dst (.map (some g))) w') :
    wpList Try.prog ops Q (⟨dst, .makeMap 95 none, ty, pos, after, none⟩ :: rest) a w :=
  wpl_of_run rfl (v := .map (some w.heap.size)) (w' := w.alloc (.map #[] 0)) (by
    show ((Instr.makeMap 95 none) >>= fun v => pure (Next.value v)).run Try.prog w = _
    rfl) (h _ _ ⟨rfl⟩ inferInstance ⟨SetI.made w⟩)
theorem wpl_lookMS {m x : Operand} {g n : Nat} {f : ByteArray → Option Int} {k : ByteArray} (hm : a.eval m = .map (some g)) (hx : a.eval x = .string k) (hs : HMS w g n f) (hk : k.size ≤ maxLen)
    (h : wpList Try.prog ops Q rest (a.put dst (.tuple #[.int .i64 ((f k).getD 0), .bool (f k).isSome])) w) : wpList Try.prog ops Q (⟨dst, .lookup 93 m x true, ty, pos, after, none⟩ :: rest) a w :=
  wpl_of_run rfl (by
    show ((Instr.lookup 93 (a.eval m) (a.eval x) true) >>= fun v => pure (Next.value v)).run Try.prog w = _
    rw [hm, hx, Sem.run_bind, hs.out.look Try.underlying9 Try.underlying3 Try.underlying93 (by kernel_rfl) k hk]
    rfl) h
theorem wpl_lookSI {m x : Operand} {g n : Nat} {f : Int → Bool} {k : Int} (hm : a.eval m = .map (some g)) (hx : a.eval x = .int .i64 k) (hs : HSI w g n f) (hk : (Lit.int .i64 k).wf = true)
    (h : wpList Try.prog ops Q rest (a.put dst (.tuple #[.agg #[], .bool (f k)])) w) : wpList Try.prog ops Q (⟨dst, .lookup 95 m x true, ty, pos, after, none⟩ :: rest) a w :=
  wpl_of_run rfl (by
    show ((Instr.lookup 95 (a.eval m) (a.eval x) true) >>= fun v => pure (Next.value v)).run Try.prog w = _
    rw [hm, hx, Sem.run_bind, hs.out.look Try.underlying3 Try.underlying95 (by kernel_rfl) k hk]
    rfl) h
theorem wpl_putMS {m x y : Operand} {g n : Nat} {f : ByteArray → Option Int} {k : ByteArray} {v : Int} (hm : a.eval m = .map (some g)) (hx : a.eval x = .string k) (hy : a.eval y = .int .i64 v) (hs : HMS w g n f) (hn : n < maxLen) (hk : k.size ≤ maxLen) (hv : (Lit.int .i64 v).wf = true)
    (h : ∀ w', Step (only g) w w' → HMS w' g (n + 1) (fun x => if x = k then some v else f x) → wpList Try.prog ops Q rest (a.put dst undef) w') : wpList Try.prog ops Q (⟨dst, .mapUpdate 93 m x y, ty, pos, after, none⟩ :: rest) a w := by
  obtain ⟨w', hrun, hm', hc⟩ := hs.out.put Try.underlying9 Try.underlying3 (mt := 93) Try.underlying93 hn k hk v hv
  refine wpl_of_unit rfl (w' := w') ?_ (h w' ⟨hc⟩ ⟨hm'⟩)
  show ((Instr.mapUpdate 93 (a.eval m) (a.eval x) (a.eval y)) >>= fun _ => pure Next.skip).run Try.prog w = _
  rw [hm, hx, hy, Sem.run_bind, hrun]
  rfl
theorem wpl_putSI {m x y : Operand} {g n : Nat} {f : Int → Bool} {k : Int} (hm : a.eval m = .map (some g)) (hx : a.eval x = .int .i64 k) (hy : a.eval y = .agg #[]) (hs : HSI w g n f) (hn : n < maxLen) (hk : (Lit.int .i64 k).wf = true)
    (h : ∀ w', Step (only g) w w' → HSI w' g (n + 1) (fun x => decide (x = k) || f x) → wpList Try.prog ops Q rest (a.put dst undef) w') : wpList Try.prog ops Q (⟨dst, .mapUpdate 95 m x y, ty, pos, after, none⟩ :: rest) a w := by
  obtain ⟨w', hrun, hm', hc⟩ := hs.out.put Try.underlying3 (mt := 95) Try.underlying95 hn k hk
  refine wpl_of_unit rfl (w' := w') ?_ (h w' ⟨hc⟩ ⟨hm'⟩)
  show ((Instr.mapUpdate 95 (a.eval m) (a.eval x) (a.eval y)) >>= fun _ => pure Next.skip).run Try.prog w = _
  rw [hm, hx, hy, Sem.run_bind, hrun]
  rfl
end
end Go.Proofs.Ytojbbmgghhmgmaa
