/- Frames that were sent one by one, in mathematics; rows of numbers. -/
import Derived.Test.YthoipeamdolfgaaBsN
import Derived.Test.YthoipeamdolfgaaMapU
open Go Go.RowKit
namespace Go.Proofs.Ythoipeamdolfgaa
open Hp
def dn (x : Fr) : Nat := (bget x.2 0).toNat
/-- by rising IDs, of one ID by rising numbers, no number twice -/
def LxR (a b : Fr) : Prop := (a.1 < b.1 ∨ (a.1 = b.1 ∧ dn a < dn b)) ∧ dn a ≠ dn b
def Lx (l : List Fr) : Prop := l.Pairwise LxR
theorem insF_perm : ∀ l x, (insF l x).Perm (x :: l)
  | [], x => .refl _
  | y :: l, x => by
    unfold insF
    split
    · exact (List.Perm.cons y (insF_perm l x)).trans (List.Perm.swap x y l)
    · exact .refl _
theorem insF_lx : ∀ l x, Lx l → (∀ y ∈ l, dn y < dn x) → Lx (insF l x)
  | [], x, _, _ => List.pairwise_cons.2 ⟨fun _ h => (by cases h), List.Pairwise.nil⟩
  | y :: l, x, h, hc => by
    have h1 := List.pairwise_cons.1 h
    have hy := hc y List.mem_cons_self
    unfold insF
    split
    · rename_i hle
      refine List.pairwise_cons.2 ⟨fun u hu => ?_, insF_lx l x h1.2 (fun u hu => hc u (List.mem_cons_of_mem _ hu))⟩
      rcases List.mem_cons.1 ((insF_perm l x).mem_iff.1 hu) with rfl | hu
      · exact ⟨by omega, by omega⟩
      · exact h1.1 u hu
    · rename_i hle
      refine List.pairwise_cons.2 ⟨fun u hu => ?_, h⟩
      rcases List.mem_cons.1 hu with rfl | hu
      · exact ⟨by omega, by omega⟩
      · have h2 := (h1.1 u hu).1
        have h3 := hc u (List.mem_cons_of_mem _ hu)
        exact ⟨by omega, by omega⟩
def gI (ids : List Int) (j : Nat) : Int := bits .and .i64 (iget ids j) 2047
theorem gI_in (ids : List Int) (j : Nat) : 0 ≤ gI ids j ∧ gI ids j ≤ 2047 := by
  have hle : (BitVec.ofInt 64 (iget ids j) &&& BitVec.ofInt 64 (2047 : Int)).toNat ≤ 2047 := by
    rw [BitVec.toNat_and]
    exact Nat.le_trans Nat.and_le_right (by decide)
  have e : gI ids j = ((BitVec.ofInt 64 (iget ids j) &&& BitVec.ofInt 64 (2047 : Int)).toNat : Int) := by
    show IntKind.i64.wrap ((BitVec.ofInt 64 (iget ids j) &&& BitVec.ofInt 64 (2047 : Int)).toNat : Int) = _
    rw [IntKind.wrap_i64]
    omega
  omega
/-- frame j of those that are sent -/
def frI (ids : List Int) (j : Nat) : Fr := (gI ids j, [b8 (j : Int)])
theorem dn_frI (ids : List Int) {j : Nat} (h : j < 256) : dn (frI ids j) = j := by
  show (b8 (j : Int)).toNat = j
  have := b8_in (n := (j : Int)) (by omega) (by omega)
  omega
/-- what waits behind k of them -/
structure Sent (ids : List Int) (k : Nat) (fr : List Fr) : Prop where
  lx : Lx fr
  len : fr.length = k
  all : ∀ x ∈ fr, ∃ j, j < k ∧ x = frI ids j
theorem Sent.nil (ids : List Int) : Sent ids 0 [] := ⟨List.Pairwise.nil, rfl, fun _ h => by cases h⟩
theorem Sent.push {ids : List Int} {k : Nat} {fr : List Fr} (h : Sent ids k fr) (hk : k < 256) : Sent ids (k + 1) (insF fr (frI ids k)) := by
  refine ⟨insF_lx _ _ h.lx (fun y hy => ?_), by rw [insF_len, h.len], fun x hx => ?_⟩
  · obtain ⟨j, hj, rfl⟩ := h.all y hy
    rw [dn_frI ids (by omega), dn_frI ids hk]
    exact hj
  · rcases List.mem_cons.1 ((insF_perm _ _).mem_iff.1 hx) with rfl | hx
    · exact ⟨k, by omega, rfl⟩
    · obtain ⟨j, hj, e⟩ := h.all x hx
      exact ⟨j, by omega, e⟩
def i64l (l : List Int) : List Value := l.map (.int .i64)
theorem i64l_at (l : List Int) (k : Nat) (h : k < l.length) : (i64l l)[k]? = some (.int .i64 (iget l k)) := by
  simp [i64l, iget, List.getD_eq_getElem?_getD, h]
section
variable {P : Program} {ops : Array Oper} {rest : List Oper} {a : Act} {w : World} {Q : Exit → Act → World → Prop} {dst : Option Tmp} {ty : TypeId} {pos : String} {after : Array Edge} {gd : Option (Nat × Bool)}
theorem ev_indexI {t : TypeId} {x ix : Operand} {A : Option Addr} {n c k : Nat} (hx : a.eval x = .slice A n c) (hi : a.eval ix = .int .i64 (k : Int)) {e : TypeId} {bytes : Nat} {z : Value} (E : ElemT P t e 1 bytes z) {l : List Int} (hr : HR w A (i64l l)) (hl : l.length = n) (h1 : k < n) :
    (execOp a.eval ⟨dst, .indexAddr t x ix, ty, pos, after, gd⟩).run P w = .ok (.value (ptrOf A k)) w := by
  obtain ⟨ad, hA, _⟩ := hr.out.lt (by rw [i64l, List.length_map, hl]; omega)
  obtain ⟨ti, hti, hz, hsz, hb⟩ := info_parts E.out.info
  show ((Instr.indexAt t (a.eval x) (a.eval ix)) >>= fun v => pure (Next.value v)).run P w = _
  rw [hx, hi, hA]
  simp [Instr.indexAt, asIntOf, run_underlying E.out.under, sizeOf, typeInfo, hti, hsz, h1, ptrOf, shift]
theorem ev_loadI {t : TypeId} {x : Operand} {A : Option Addr} {k : Nat} (hx : a.eval x = ptrOf A k) {l : List Int} (hr : HR w A (i64l l)) (ht : CellT P t) (hk : k < l.length) :
    (execOp a.eval ⟨dst, .load t x, ty, pos, after, gd⟩).run P w = .ok (.value (.int .i64 (iget l k))) w := by
  obtain ⟨ad, hA, hc⟩ := hr.out k _ (i64l_at l k hk)
  show ((Instr.loadAt t (a.eval x)) >>= fun v => pure (Next.value v)).run P w = _
  rw [hx, hA]
  simp [ptrOf, shift, Instr.loadAt, Instr.sureAddr, loadVar, ht.agg w, hc]
theorem wpl_indexI {t : TypeId} {x ix : Operand} {A : Option Addr} {n c k : Nat} (hx : a.eval x = .slice A n c) (hi : a.eval ix = .int .i64 (k : Int)) {e : TypeId} {bytes : Nat} {z : Value} (E : ElemT P t e 1 bytes z) {l : List Int} (hr : HR w A (i64l l)) (hl : l.length = n) (h1 : k < n)
    (h : wpList P ops Q rest (a.put dst (ptrOf A k)) w) : wpList P ops Q (⟨dst, .indexAddr t x ix, ty, pos, after, none⟩ :: rest) a w := wpl_of_run rfl (ev_indexI hx hi E hr hl h1) h
theorem wpl_loadI {t : TypeId} {x : Operand} {A : Option Addr} {k : Nat} (hx : a.eval x = ptrOf A k) {l : List Int} (hr : HR w A (i64l l)) (ht : CellT P t) (hk : k < l.length)
    (h : wpList P ops Q rest (a.put dst (.int .i64 (iget l k))) w) : wpList P ops Q (⟨dst, .load t x, ty, pos, after, none⟩ :: rest) a w := wpl_of_run rfl (ev_loadI hx hr ht hk) h
end
instance : ElemT Try.prog 56 3 1 8 (.int .i64 0) := ⟨⟨Try.underlying56, by kernel_rfl, rfl, by decide⟩⟩
instance mapU : MapT Try.prog 57 5 4 (.bool false) := ⟨Try.underlying5, Try.underlying57, fun _ => by kernel_rfl⟩
instance OffB.bornU (w : World) (y g m : Nat) (f : Int → Option Value) [b : Born w y] [h : HMI Try.prog 5 (.bool false) w g m f] : OffB (only y) g := OffB.bornMI w y g m f h.out
end Go.Proofs.Ythoipeamdolfgaa
