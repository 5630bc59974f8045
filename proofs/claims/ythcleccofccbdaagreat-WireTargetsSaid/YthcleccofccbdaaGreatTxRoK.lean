/- RowE, SnM, RoA, RoB, RoC, SnA, SnB, RoE, RoR, RoF, SnC, QmA, RoD, RoG, RoH, RoK -/
import Derived.Test.YthcleccofccbdaaGreatTxBase
import Derived.Test.YthcleccofccbdaaGreatTxWyQ
import Derived.Test.YthcleccofccbdaaGreatTxHasW
import Derived.Test.YthcleccofccbdaaGreatTxWsB
import Derived.Test.YthcleccofccbdaaGreatTxRoM
import Derived.Test.YthcleccofccbdaaGreatTxWuA
import Derived.Test.YthcleccofccbdaaGreatTxRrA
section
open Go Go.RowKit
namespace Go.Proofs.YthcleccofccbdaaGreat
def gt {α : Type} [RowC α] (l : List α) (k : Nat) : α := l.getD k RowC.zero
theorem gt_mem {α : Type} [RowC α] (l : List α) (k : Nat) (h : k < l.length) : gt l k ∈ l := by
  simp [gt, List.getD_eq_getElem?_getD, h]
theorem enc_sz {α : Type} [RowC α] (a : α) {n : Nat} (h : RowC.size α = n) : (RowC.enc a).toArray.size = n := by
  simp [RowC.len, h]
theorem enc_one {α : Type} [RowC α] (a : α) : (RowC.enc a).toArray.all (·.oneCell') = true := by
  rw [Array.all_eq_true_iff_forall_mem]
  intro x hx
  exact RowC.one a x (by simpa using hx)
section
variable {P : Program} {ops : Array Oper} {rest : List Oper} {a : Act} {w : World} {Q : Exit → Act → World → Prop} {dst : Option Tmp} {ty : TypeId} {pos : String} {after : Array Edge} {gd : Option (Nat × Bool)}
/-- the address of an element -/
theorem ev_indexE {α : Type} [RowC α] {t : TypeId} {x ix : Operand} {A : Option Addr} {n c k : Nat} (hx : a.eval x = .slice A n c) (hi : a.eval ix = .int .i64 (k : Int)) {e : TypeId} {size bytes : Nat} {z : Value} (E : ElemT P t e size bytes z)
    {l : List α} (hr : HR w A (cellsOf l)) (hl : l.length = n) (hs : RowC.size α = size) (hp : 0 < size) (h1 : k < n) :
    (execOp a.eval ⟨dst, .indexAddr t x ix, ty, pos, after, gd⟩).run P w = .ok (.value (ptrOf A (k * size))) w := by
  obtain ⟨ad, hA, _⟩ := hr.out.lt (by rw [cellsOf_len, hs, hl]; exact Nat.mul_pos (by omega) hp)
  obtain ⟨ti, hti, hz, hsz, hb⟩ := info_parts E.out.info
  show ((Instr.indexAt t (a.eval x) (a.eval ix)) >>= fun v => pure (Next.value v)).run P w = _
  rw [hx, hi, hA]
  simp [Instr.indexAt, asIntOf, run_underlying E.out.under, sizeOf, typeInfo, hti, hsz, h1, ptrOf, shift]
/-- a whole element -/
theorem ev_loadE {α : Type} [RowC α] {t : TypeId} {x : Operand} {A : Option Addr} {k n : Nat} (ht : RowT P t n) (hx : a.eval x = ptrOf A (k * n)) {l : List α} (hr : HR w A (cellsOf l)) (hs : RowC.size α = n) (hp : 0 < n) (hk : k < l.length) :
    (execOp a.eval ⟨dst, .load t x, ty, pos, after, gd⟩).run P w = .ok (.value (.agg (RowC.enc (gt l k)).toArray)) w := by
  show ((Instr.loadAt t (a.eval x)) >>= fun v => pure (Next.value v)).run P w = _
  subst hs
  rw [hx, Sem.run_bind, run_loadshift (k := k * RowC.size α) (cs := RowC.enc (gt l k)) hr.out ht (RowC.len _) (cellsOf_at l k hk) hp]
  rfl
/-- the address of a field of an element -/
theorem ev_fieldE {t : TypeId} {x : Operand} {i : Nat} {A : Option Addr} {k : Nat} {fs : Array Field} {f : Field} (hu : P.underlying t = some (.struct fs)) (hf : fs[i]? = some f) (hz : (P.info? f.type).map (fun i => decide (i.size = 0)) = some false) (hx : a.eval x = ptrOf A k) {vs : List Value} (hr : HR w A vs) (hl : 0 < vs.length) :
    (execOp a.eval ⟨dst, .fieldAddr t x i, ty, pos, after, gd⟩).run P w = .ok (.value (ptrOf A (k + f.offset))) w := by
  obtain ⟨ad, rfl, _⟩ := hr.out.lt hl
  show ((Instr.fieldAt t (a.eval x) i) >>= fun v => pure (Next.value v)).run P w = _
  rw [hx]
  cases hq : P.info? f.type with
  | none => rw [hq] at hz; simp at hz
  | some inf =>
    rw [hq] at hz
    simp at hz
    simp [Instr.fieldAt, run_underlying hu, hf, ptrOf, shift, Instr.sureAddr, fieldPlace, sizeOf, typeInfo, hq, hz, add_of_add]
/-- a field of an element -/
theorem ev_loadF {α : Type} [RowC α] {t : TypeId} {x : Operand} {A : Option Addr} {k j s : Nat} (ht : CellT P t) (hx : a.eval x = ptrOf A (k * s + j)) {l : List α} (hr : HR w A (cellsOf l)) (hs : RowC.size α = s) (hk : k < l.length) {v : Value} (hv : nth (RowC.enc (gt l k)) j = some v) :
    (execOp a.eval ⟨dst, .load t x, ty, pos, after, gd⟩).run P w = .ok (.value v) w := by
  subst hs
  rw [← nth_get] at hv
  have hj : j < RowC.size α := by
    have := (List.getElem?_eq_some_iff.1 hv).1
    rwa [RowC.len] at this
  have hat := cellsOf_at l k hk
  have hv2 : (cellsOf l)[k * RowC.size α + j]? = some v := by
    have h1 : (((cellsOf l).drop (k * RowC.size α)).take (RowC.size α))[j]? = (RowC.enc (gt l k))[j]? := by rw [hat]; rfl
    rw [List.getElem?_take, if_pos hj, List.getElem?_drop] at h1
    rw [h1, hv]
  obtain ⟨ad, rfl, hc⟩ := hr.out _ _ hv2
  show ((Instr.loadAt t (a.eval x)) >>= fun v => pure (Next.value v)).run P w = _
  rw [hx]
  simp [ptrOf, shift, Instr.loadAt, Instr.sureAddr, loadVar, ht.agg w, hc]
end
theorem cells_pos {α : Type} [RowC α] {l : List α} (hp : 0 < RowC.size α) (h : 0 < l.length) : 0 < (cellsOf l).length := by
  rw [cellsOf_len]
  exact Nat.mul_pos h hp
section
variable {P : Program} {ops : Array Oper} {rest : List Oper} {a : Act} {w : World} {Q : Exit → Act → World → Prop} {dst : Option Tmp} {ty : TypeId} {pos : String} {after : Array Edge}
theorem wpl_indexE {α : Type} [RowC α] {t : TypeId} {x ix : Operand} {A : Option Addr} {n c k : Nat} (hx : a.eval x = .slice A n c) (hi : a.eval ix = .int .i64 (k : Int)) {e : TypeId} {size bytes : Nat} {z : Value} (E : ElemT P t e size bytes z)
    {l : List α} (hr : HR w A (cellsOf l)) (hl : l.length = n) (hs : RowC.size α = size) (hp : 0 < size) (h1 : k < n)
    (h : wpList P ops Q rest (a.put dst (ptrOf A (k * size))) w) : wpList P ops Q (⟨dst, .indexAddr t x ix, ty, pos, after, none⟩ :: rest) a w := wpl_of_run rfl (ev_indexE hx hi E hr hl hs hp h1) h
theorem wpl_loadE {α : Type} [RowC α] {t : TypeId} {x : Operand} {A : Option Addr} {k n : Nat} (ht : RowT P t n) (hx : a.eval x = ptrOf A (k * n)) {l : List α} (hr : HR w A (cellsOf l)) (hs : RowC.size α = n) (hp : 0 < n) (hk : k < l.length)
    (h : wpList P ops Q rest (a.put dst (.agg (RowC.enc (gt l k)).toArray)) w) : wpList P ops Q (⟨dst, .load t x, ty, pos, after, none⟩ :: rest) a w := wpl_of_run rfl (ev_loadE ht hx hr hs hp hk) h
theorem wpl_loadF {α : Type} [RowC α] {t : TypeId} {x : Operand} {A : Option Addr} {k j s : Nat} (ht : CellT P t) (hx : a.eval x = ptrOf A (k * s + j)) {l : List α} (hr : HR w A (cellsOf l)) (hs : RowC.size α = s) (hk : k < l.length) {v : Value} (hv : nth (RowC.enc (gt l k)) j = some v)
    (h : wpList P ops Q rest (a.put dst v) w) : wpList P ops Q (⟨dst, .load t x, ty, pos, after, none⟩ :: rest) a w := wpl_of_run rfl (ev_loadF ht hx hr hs hk hv) h
end
end Go.Proofs.YthcleccofccbdaaGreat
end
section
open Go Go.RowKit
namespace Go.Proofs.YthcleccofccbdaaGreat
/-- a pin: its name's bytes, its version -/
structure PinR where
  l : List UInt8
  v : Int
instance rowCPin : RowC PinR := ⟨2, fun p => [.string (strL p.l), .int .i64 p.v], fun _ => rfl, fun p u hu => by
  simp only [List.mem_cons, List.not_mem_nil, or_false] at hu
  rcases hu with rfl | rfl <;> rfl, ⟨[], 0⟩⟩
def pinTk (s : RS) : PinR × RS := (⟨s.row.1, (s.row.2.num.1 : Nat)⟩, s.row.2.num.2)
def pinE (p : PinR) : List UInt8 := encRow p.l ++ encAll [p.v]
def pinOk (p : PinR) : Bool := nameL p.l && verB p.v
def pinLt (a b : PinR) : Bool := Op.bytesLess a.l b.l
/-- each above the one ahead of it, of the first -/
def riseB (P : List PinR) : Nat → Bool
  | 0 => true
  | k + 1 => riseB P k && (decide (k = 0) || pinLt (gt P (k - 1)) (gt P k))
def snapOk (v e : Int) (P : List PinR) : Bool := verB v && numB e && decide (P.length ≤ 16) && P.all pinOk && riseB P P.length
/-- a snapshot's bytes -/
def pinsE (P : List PinR) : List UInt8 := P.flatMap pinE
def snapE (v e : Int) (P : List PinR) : List UInt8 := encAll [3] ++ (encAll [v, e] ++ (encAll [(P.length : Int)] ++ pinsE P))
def snV (b : List UInt8) : Nat := (kindS 3 b).num.1
def snX (b : List UInt8) : Nat := ((kindS 3 b).at 1).num.1
def snS (b : List UInt8) : RS := (kindS 3 b).at 2
def snP (b : List UInt8) : List PinR := lstL pinTk 16 (snS b)
def snR (b : List UInt8) : RS := lstS pinTk 16 (snS b)
def snOk (b : List UInt8) : Bool := wholeB (snR b) && snapOk (snV b) (snX b) (snP b)
end Go.Proofs.YthcleccofccbdaaGreat
end
section
open Go Go.RowKit
namespace Go.Proofs.YthcleccofccbdaaGreat
/-- keys, and what their row holds -/
structure KR where
  A : Option Addr
  n : Nat
  c : Nat
  l : List H32
  need : Int
def KR.m (k : KR) : List H32 × Int := (k.l, k.need)
instance rowCKR : RowC KR := ⟨2, fun k => [.slice k.A k.n k.c, .int .i64 k.need], fun _ => rfl, fun k u hu => by
  simp only [List.mem_cons, List.not_mem_nil, or_false] at hu
  rcases hu with rfl | rfl <;> rfl, ⟨none, 0, 0, [], 0⟩⟩
structure KIn (w : World) (k : KR) : Prop where
  rd : Rd w k.A (cellsOf k.l)
  len : k.l.length = k.n
  cap : k.n ≤ k.c
  le : k.n ≤ 1000
theorem KIn.nw {w0 w : World} [n : Nw w0 w] {k : KR} (h : KIn w0 k) : KIn w k := ⟨h.rd.chg n.out (fun _ _ _ h => h), h.len, h.cap, h.le⟩
/-- the blocks that a row of digests lies in -/
def inRow (A : Option Addr) (l : List H32) : Nat → Prop := fun x => cellsOf l ≠ [] ∧ rowOf A x
theorem KIn.chg {S : Nat → Prop} {w0 w : World} {k : KR} (h : KIn w0 k) (hc : Chg S w0 w) (hS : ∀ x, inRow k.A k.l x → ¬ S x) : KIn w k := ⟨h.rd.chg hc (fun hne ad e hk => hS _ ⟨hne, ad, e, rfl⟩ hk), h.len, h.cap, h.le⟩
theorem KIn.low {w : World} {k : KR} (h : KIn w k) (x : Nat) (hx : inRow k.A k.l x) : x < w.heap.size := by
  obtain ⟨hne, ad, e, hk⟩ := hx
  rw [← hk]
  exact rd_lt h.rd hne e
instance elemKR : ElemT Tryz.prog 106 42 2 32 (.agg #[.slice none 0 0, .int .i64 0]) := ⟨⟨Tryz.underlying106, by kernel_rfl, rfl, by decide⟩⟩
instance rowTKeys : RowT Tryz.prog 42 2 := ⟨by kernel_rfl, _, Tryz.underlying42, rfl⟩
instance rowTRoot : RowT Tryz.prog 45 10 := ⟨by kernel_rfl, _, Tryz.underlying45, rfl⟩
instance cellKRs : CellT Tryz.prog 106 := ⟨fun _ => by kernel_rfl, fun _ => by kernel_rfl⟩
/-- a root's cells -/
def rtL (v e : Int) (K : List KR) : List Value := .int .i64 v :: .int .i64 e :: cellsOf K
def noKR : KR := ⟨none, 0, 0, [], 0⟩
def noK : List KR := [noKR, noKR, noKR, noKR]
theorem noKIn (w : World) : ∀ k ∈ noK, KIn w k := by
  intro k hk
  simp only [noK, List.mem_cons, List.not_mem_nil, or_false] at hk
  have : k = noKR := by rcases hk with h | h | h | h <;> exact h
  subst this
  exact ⟨Rd.nil _ _, rfl, Nat.le_refl _, by decide⟩
instance zeroRoot : ZeroT Tryz.prog 45 (rtL 0 0 noK).toArray := ⟨.agg (rtL 0 0 noK).toArray, fun _ => by kernel_rfl, rfl⟩
section
variable {P : Program} {ops : Array Oper} {rest : List Oper} {a : Act} {w : World} {Q : Exit → Act → World → Prop} {dst : Option Tmp} {ty : TypeId} {pos : String} {after : Array Edge} {gd : Option (Nat × Bool)}
end
/-- what a maker of a field answers -/
def FldPost (w : World) (ys : List UInt8) (U : Nat → Prop) : Ending → World → Prop := fun e w' => ∃ f caps T, e = .returned (.func (.func f) #[] caps) ∧ Step nowhere w w' ∧ Lays w' T (.func (.func f) #[] caps) ys ∧ ∀ x, T x → w.heap.size ≤ x ∨ U x
end Go.Proofs.YthcleccofccbdaaGreat
end
section
open Go Go.RowKit
namespace Go.Proofs.YthcleccofccbdaaGreat
instance cellFHash : CellT Tryz.prog 186 := ⟨fun _ => by kernel_rfl, fun _ => by kernel_rfl⟩
theorem FldPost.mono {w : World} {ys zs : List UInt8} {U V : Nat → Prop} (hy : ys = zs) (hU : ∀ x, U x → V x) : ∀ e w', FldPost w ys U e w' → FldPost w zs V e w' := by
  rintro e w' ⟨f, caps, T, rfl, hs, hL, hT⟩
  subst hy
  exact ⟨f, caps, T, rfl, hs, hL, fun x hx => (hT x hx).imp id (hU x)⟩
set_option maxRecDepth 100000 in
set_option maxHeartbeats 1600000 in
theorem each1H_calls {w : World} {g zl zf n c : Nat} {A B : Option Addr} {xs : List UInt8} {l : List H32} {t1 t2 : TypeId} {fx : FuncId} (hf : fx = 126) (ys : H32 → List UInt8) (U : Nat → Prop) (hw : WrAt w g A xs) [h1 : HB w zl t1 #[.slice B n c]] [h2 : HB w zf t2 #[.func (.func fx) #[] #[]]] (hr : Rd w B (cellsOf l)) (hl : l.length = n) (hm : n ≤ 1000000000)
    (hU : ∀ x, U x → ¬ Wf g A x) (hUl : ∀ x, U x → x < w.heap.size) (hzl : ¬ Wf g A zl) (hzf : ¬ Wf g A zf) (hB : Apart (Wf g A) B (cellsOf l)) (hlay : ∀ x ∈ l, ∀ w1, Chg (fun x => ¬ U x) w w1 → Calls Tryz.prog 126 #[.agg (u8s x.l)] w1 (FldPost w1 (ys x) U)) (hx : xs.length + (l.flatMap ys).length ≤ 1000000000) :
    Calls Tryz.prog 195 #[.pointer (some ⟨g, 0, none⟩), .pointer (some ⟨zl, 0, none⟩), .pointer (some ⟨zf, 0, none⟩)] w fun e w' => e = .returned (.tuple #[]) ∧ ∃ A', WrAt w' g A' (xs ++ l.flatMap ys) ∧ Chg (Wf g A) w w' ∧ Moved w A A' := by
  subst hf
  have HL := Lib.hid hl
  have HLAY := Lib.hid hlay
  have HX := Lib.hid hx
  clear hlay hx
  go_enter Tryz.func195, Tryz.ntmps195
  go_wp2_with (first | ((with_reducible apply wpl_loadcellN); (exact rfl); infer_instance; (exact rfl)))
  go_loopw [8] (fun iv wr => ∃ (k : Nat) (A1 : Option Addr), k ≤ n ∧ iv = .int .i64 (k : Int) ∧ WrAt wr g A1 (xs ++ (l.take k).flatMap ys) ∧ Chg (Wf g A) w wr ∧ Moved w A A1) (fun iv _ => n - (intOf iv).toNat)
  case atStart => exact ⟨0, A, Nat.zero_le _, rfl, by simpa using hw, Chg.refl _ _, Moved.refl _ _⟩
  case round =>
    obtain ⟨k, A1, hk, rfl, hW, hC, hM⟩ := hrel
    have HW := Lib.hid hW
    have HM := Lib.hid hM
    clear hW hM
    by_cases hlt : k < n
    · have hltI : (k : Int) < n := by omega
      have hkl : k < l.length := by omega
      have hr1 : HR wr B (cellsOf l) := ⟨hr.chg hC hB⟩
      have k2 : HB wr zf t2 #[.func (.func 126) #[] #[]] := ⟨h2.out.chg hC hzf⟩
      have hmem : gt l k ∈ l := gt_mem l k hkl
      have HTK : Hid ((l.take (k + 1)).flatMap ys = (l.take k).flatMap ys ++ ys (gt l k)) := Lib.hid (by
        rw [← List.take_append_getElem hkl, List.flatMap_append]
        simp [gt, List.getD_eq_getElem?_getD, hkl])
      have HLE : Hid (((l.take k).flatMap ys).length + (ys (gt l k)).length ≤ (l.flatMap ys).length) := Lib.hid (by
        have e : l.flatMap ys = (l.take (k + 1)).flatMap ys ++ (l.drop (k + 1)).flatMap ys := by rw [← List.flatMap_append, List.take_append_drop]
        rw [e, HTK.out, List.length_append, List.length_append]
        omega)
      go_wp2_with (first | ((with_reducible apply (wpl_alloc (dst := some 5))); intro zv wzv _ _ _) | ((with_reducible apply wpl_loadrow); (exact rfl); infer_instance; infer_instance; (first | (with_reducible assumption) | (with_reducible exact H32.size _) | kernel_rfl)) | ((with_reducible apply wpl_loadcellN); (exact rfl); infer_instance; (exact rfl)) | ((with_reducible apply wpl_storerow); (exact rfl); (exact rfl); infer_instance; infer_instance; (first | (with_reducible assumption) | (with_reducible exact H32.size _) | kernel_rfl); (first | (with_reducible assumption) | (with_reducible exact H32.size _) | kernel_rfl); (first | (with_reducible exact u8s_one _) | (with_reducible assumption) | kernel_rfl); intro ws _ _) | ((with_reducible apply wpl_indexH); (exact rfl); (exact rfl); infer_instance; infer_instance; (first | (with_reducible assumption) | omega); (first | (with_reducible assumption) | omega); (first | (with_reducible assumption) | omega)) | ((with_reducible apply (wpl_loadhash (t := 47))); (exact rfl); infer_instance; infer_instance; (first | (with_reducible assumption) | omega)))
      refine (HLAY.out (gt l k) hmem _ ((hC.mono (fun x _ h h' => hU x h' h)).trans (stepN (w0 := wr)).chg (fun _ _ h => h.elim))).mono ?_
      rintro e w5 ⟨f, caps, T, rfl, hs5, hL5, hT5⟩
      have n5 : Nw wr w5 := inferInstance
      have hsz := n5.out.size
      obtain ⟨f9, caps9, he9, hent, hrun⟩ := hL5.run
      injection he9 with e1 _ e2
      injection e1 with e1
      subst e1 e2
      have hTT : ∀ x, Wf g A1 x → ¬ T x := by
        intro x hx hTx
        have hxl := HW.out.old x hx
        rcases hT5 x hTx with h | h
        · have := Nat.le_trans (stepN (w0 := wr)).chg.size h
          omega
        · rcases hx with rfl | ⟨ad, e, rfl⟩
          · exact hU _ h (.inl rfl)
          · rcases HM.out with rfl | ⟨ad', e', h'⟩
            · exact hU _ h (.inr ⟨ad, e, rfl⟩)
            · rw [e] at e'
              injection e' with e'
              subst e'
              have := hUl _ h
              omega
      have HRUN := Lib.hid (hrun w5 g A1 (xs ++ (l.take k).flatMap ys) (Chg.refl _ _) (HW.out.chg n5.out (fun _ _ h => h)) hTT (by
        have h1 := HLE.out
        have h2 := HX.out
        rw [List.length_append]
        omega))
      clear hrun hL5 hT5
      go_wp2_with fail
      refine HRUN.out.mono ?_
      rintro e w6 ⟨rfl, A6, hW6, hC6, hM6⟩
      have h7 := wf_trans (hC.trans n5.out (fun _ _ h => h.elim)) HM.out hC6 hM6
      have HW6 := Lib.hid hW6
      clear hW6 hC6 hM6
      go_wp2_with fail
      refine ⟨⟨k + 1, A6, by omega, by go_num, ?_, h7.1, h7.2⟩, by simp [intOf]; omega⟩
      rw [HTK.out, ← List.append_assoc]
      exact HW6.out
    · have hltI : ¬ (k : Int) < n := by omega
      have hfin : l.take k = l := List.take_of_length_le (by have := HL.out; omega)
      rw [hfin] at HW
      go_wp2_with fail
      go_end0
      exact ⟨rfl, A1, HW.out, hC, HM.out⟩
set_option maxRecDepth 100000 in
set_option maxHeartbeats 1600000 in
theorem eachH_calls {w : World} {n c : Nat} {B : Option Addr} {l : List H32} (ys : H32 → List UInt8) (U : Nat → Prop) (hr : Rd w B (cellsOf l)) (hl : l.length = n) (hm : n ≤ 1000000000) (hUl : ∀ x, U x → x < w.heap.size)
    (hlay : ∀ x ∈ l, ∀ w1, Chg (fun x => ¬ U x) w w1 → Calls Tryz.prog 126 #[.agg (u8s x.l)] w1 (FldPost w1 (ys x) U)) :
    Calls Tryz.prog 186 #[.slice B n c, .func (.func 126) #[] #[]] w (FldPost w (l.flatMap ys) (fun x => (cellsOf l ≠ [] ∧ rowOf B x) ∨ U x)) := by
  have HLAY := Lib.hid hlay
  clear hlay
  unfold FldPost
  go_enter Tryz.func186, Tryz.ntmps186
  go_wp2_with (first | ((with_reducible apply (wpl_box_slice (dst := some 2))); (exact rfl); intro bl wbl _ _ _) | ((with_reducible apply (wpl_box (dst := some 3) (cs := #[.func (.func 126) #[] #[]]))); (exact rfl); (exact rfl); intro bv wbv _ _ _))
  go_ret
  have h1 : HB wbv bl 40 #[.slice B n c] := inferInstance
  have h2 : HB wbv bv 186 #[.func (.func 126) #[] #[]] := inferInstance
  have hst : Step nowhere w wbv := stepN
  have hbl : w.heap.size ≤ bl := Nat.le_of_eq (inferInstance : Born w bl).eq.symm
  have hbv : w.heap.size ≤ bv := by
    have e1 := (inferInstance : Born wbl bv).eq
    have e2 := (inferInstance : SzLe w wbl).out
    omega
  have hr2 := hr.later hst.chg
  refine ⟨_, _, fun x => x = bl ∨ x = bv ∨ (cellsOf l ≠ [] ∧ rowOf B x) ∨ U x, rfl, hst, ⟨fun x hx => ?_, _, _, rfl, run_enter Tryz.func195 (by kernel_rfl) rfl, fun w1 g A xs hc hw hT hlen => ?_⟩, fun x hx => ?_⟩
  · rcases hx with rfl | rfl | ⟨hne, ad, e, hk⟩ | h
    · exact h1.out.lt
    · exact h2.out.lt
    · rw [← hk]
      exact rd_lt hr2 hne e
    · exact Nat.lt_of_lt_of_le (hUl x h) hst.chg.size
  · have k1 : HB w1 bl 40 #[.slice B n c] := ⟨h1.out.chg hc (fun hk => hk (.inl rfl))⟩
    have k2 : HB w1 bv 186 #[.func (.func 126) #[] #[]] := ⟨h2.out.chg hc (fun hk => hk (.inr (.inl rfl)))⟩
    exact each1H_calls (zl := bl) (zf := bv) rfl ys U hw (hr2.chg hc (fun hne ad e hk => hk (.inr (.inr (.inl ⟨hne, ad, e, rfl⟩))))) hl hm
      (fun x hx h => hT x h (.inr (.inr (.inr hx)))) (fun x hx => Nat.lt_of_lt_of_le (Nat.lt_of_lt_of_le (hUl x hx) hst.chg.size) hc.size) (fun h => hT _ h (.inl rfl)) (fun h => hT _ h (.inr (.inl rfl))) (fun hne ad e hk => hT _ hk (.inr (.inr (.inl ⟨hne, ad, e, rfl⟩))))
      (fun x hx w2 h => HLAY.out x hx w2 (((hst.chg.mono (T := fun x => ¬ U x) (fun _ _ h => h.elim)).trans (hc.mono (fun x _ h h' => h (.inr (.inr (.inr h'))))) (fun _ _ h => h)).trans h (fun _ _ h => h))) (by omega)
  · rcases hx with rfl | rfl | h | h
    · exact .inl hbl
    · exact .inl hbv
    · exact .inr (.inl h)
    · exact .inr (.inr h)
set_option maxRecDepth 100000 in
set_option maxHeartbeats 1600000 in
theorem listH_calls {w : World} {n c : Nat} {B : Option Addr} {l : List H32} (ys : H32 → List UInt8) (U : Nat → Prop) (hr : Rd w B (cellsOf l)) (hl : l.length = n) (hm : n ≤ 1000000000) (hUl : ∀ x, U x → x < w.heap.size)
    (hlay : ∀ x ∈ l, ∀ w1, Chg (fun x => ¬ U x) w w1 → Calls Tryz.prog 126 #[.agg (u8s x.l)] w1 (FldPost w1 (ys x) U)) :
    Calls Tryz.prog 162 #[.slice B n c, .func (.func 126) #[] #[]] w (FldPost w (encAll [(n : Int)] ++ l.flatMap ys) (fun x => (cellsOf l ≠ [] ∧ rowOf B x) ∨ U x)) := by
  have kb0 := run_int1 (n : Int)
  have HLAY := Lib.hid hlay
  have HL := Lib.hid hl
  clear hlay hl
  unfold FldPost
  go_enter Tryz.func162, Tryz.ntmps162
  go_wp2_with (first | ((with_reducible apply (stop_dst (dst := some 7))); (try simp only [Act.put, sA, sB, sC]); ((with_reducible apply (wpl_bslice (dst := some 7))); (exact kb0 _); intro zb wb _ _ _)))
  refine (numsC (z := zb) (vs := [(n : Int)]) rfl rfl (show 9 * 1 ≤ 1000000000 by decide)).mono ?_
  rintro e w5 ⟨f5, caps5, T5, rfl, _, hL5, hT5⟩
  have hzb : w.heap.size ≤ zb := (NewA.monoS (w0 := w) (NewA.of_born (z := zb) 0)).out ⟨zb, 0, none⟩ rfl
  go_wp2_with fail
  refine (eachH_calls (l := l) ys U (hr.later (stepN (w0 := w)).chg) HL.out hm (fun x h => Nat.lt_of_lt_of_le (hUl x h) (stepN (w0 := w)).chg.size) (fun x hx w1 h => HLAY.out x hx w1 (((stepN (w0 := w)).chg.mono (fun _ _ h => h.elim)).trans h (fun _ _ h => h)))).mono ?_
  rintro e w6 ⟨f6, caps6, T6, rfl, _, hL6, hT6⟩
  have kb2 := run_fld2 f5 f6 caps5 caps6
  go_wp2_with (first | ((with_reducible apply (stop_dst (dst := some 12))); (try simp only [Act.put, sA, sB, sC]); ((with_reducible apply (wpl_bslice (dst := some 12))); (exact kb2 _); intro zc wb _ _ _)))
  refine (fields2 (z := zc) (hL5.later (stepN (w0 := w5)).chg (fun _ _ h => h)) (hL6.later (stepN (w0 := w6)).chg (fun _ _ h => h))).mono ?_
  rintro e w7 ⟨f7, caps7, T7, rfl, _, hL7, hT7⟩
  have hzc : w.heap.size ≤ zc := (NewA.monoS (w0 := w) (NewA.of_born (z := zc) 0)).out ⟨zc, 0, none⟩ rfl
  go_wp2_with fail
  go_ret
  refine ⟨f7, caps7, T7, rfl, stepN, hL7, fun x hx => ?_⟩
  rcases hT7 x hx with h | rfl | h | h
  · exact .inl (Nat.le_trans (stepN (w0 := w)).chg.size h)
  · exact .inl hzc
  · rcases hT5 x h with h | rfl
    · exact .inl (Nat.le_trans (stepN (w0 := w)).chg.size h)
    · exact .inl hzb
  · rcases hT6 x h with h | h
    · exact .inl (Nat.le_trans (stepN (w0 := w)).chg.size h)
    · exact .inr h
set_option maxRecDepth 100000 in
set_option maxHeartbeats 1600000 in
theorem layKeys_calls (k : KR) {w : World} (hk : KIn w k) :
    Calls Tryz.prog 123 #[.agg #[.slice k.A k.n k.c, .int .i64 k.need]] w (FldPost w (keyB k.l k.need) (inRow k.A k.l)) := by
  have HK := Lib.hid hk
  have HN : Hid (k.n ≤ 1000000000) := Lib.hid (Nat.le_trans hk.le (by decide))
  have HKB : Hid (keyB k.l k.need = encAll [(k.n : Int)] ++ k.l.flatMap (·.l) ++ encAll [k.need]) := Lib.hid (by rw [keyB, hk.len]; rfl)
  have kb0 := run_int1 k.need
  clear hk
  unfold FldPost
  go_enter Tryz.func123, Tryz.ntmps123
  go_wp2_with (first | ((with_reducible apply (wpl_box_agg (dst := some 1))); (exact rfl); intro zt wzt _ _ _))
  have hwz := (stepN (w0 := w) (w := wzt)).chg.size
  have HKZ : Hid (KIn wzt k) := Lib.hid (KIn.nw HK.out)
  refine wp_region_N (nowhere) (by kernel_rfl) (fun wd _ _ => ?_)
  refine' takeH (i := 0) (v := _) rfl (by kernel_rfl) (by kernel_rfl) (by kernel_rfl) (fun _ _ _ h => h) (yields_of (by rfl) (fun w' _ => ?_)) inferInstance ?_
  rotate_left
  · (go_simp; try with_reducible rfl)
  try simp only [Act.put, sA]; try simp only [sB, sC]
  refine' takeH (i := 1) (v := _) rfl (by kernel_rfl) (by kernel_rfl) (by kernel_rfl) (fun _ _ _ h => h) (yields_of (by rfl) (fun w' _ => ?_)) inferInstance ?_
  rotate_left
  · ((with_reducible apply ev_loadcellN); (exact rfl); infer_instance; infer_instance; (exact rfl))
  try simp only [Act.put, sA]; try simp only [sB, sC]
  refine' takeH (i := 3) (v := _) rfl (by kernel_rfl) (by kernel_rfl) (by kernel_rfl) (fun _ _ _ h => h) (yields_of (by rfl) (fun w' _ => ?_)) inferInstance ?_
  rotate_left
  · (go_simp; try with_reducible rfl)
  try simp only [Act.put, sA]; try simp only [sB, sC]
  refine' takeH (i := 4) (v := _) rfl (by kernel_rfl) (by kernel_rfl) (by kernel_rfl) (fun _ _ _ h => h) (yields_of (by rfl) (fun w' _ => ?_)) inferInstance ?_
  rotate_left
  · ((with_reducible apply ev_loadcellN); (exact rfl); infer_instance; infer_instance; (exact rfl))
  try simp only [Act.put, sA]; try simp only [sB, sC]
  refine wpAnyH_ready (rs := [2, 5]) (by kernel_rfl) (by simp) (AllReadyH.cons rfl (fun K_ hK_ => ?_) (AllReadyH.cons rfl (fun K_ hK_ => ?_) AllReadyH.nil))
  focus
    go_simp
    refine (listH_calls (l := k.l) (fun x => x.l) nowhere (HKZ.out.rd.later (stepN (w0 := wzt)).chg) HKZ.out.len HN.out (fun _ h => h.elim) (fun x _ w1 _ => (fhash_calls x w1).mono (fun e w' ⟨f, caps, T, h1, h2, h3, h4⟩ => ⟨f, caps, T, h1, h2, h3, fun x hx => .inl (h4 x hx)⟩))).mono ?_
    rintro e w5 ⟨f5, caps5, T5, rfl, _, hL5, hT5⟩
    refine hK_.out _ _ inferInstance (fun _ => ?_)
    clear hK_ K_
    try simp only [Act.put, sA]; try simp only [sB, sC]
    refine goH (i := 5) (by kernel_rfl) rfl (fun K_ hK_ => ?_)
    rw [if_pos (by kernel_rfl)]
    refine wpr_of_list ?_
    (first | ((with_reducible apply (stop_dst (dst := some 8))); (try simp only [Act.put, sA, sB, sC]); ((with_reducible apply (wpl_bslice (dst := some 8))); (exact run_int1 _ _); intro zb wb _ _ _)) | ((with_reducible apply (stop_dst (dst := some 10))); (try simp only [Act.put, sA, sB, sC]); ((with_reducible apply (wpl_bslice (dst := some 10))); (exact run_fld2 _ _ _ _ _); intro zc wb _ _ _)))
    refine wpList_nil ?_
    unfold onlyN
    refine hK_.out _ _ inferInstance (fun _ => ?_)
    clear hK_ K_
    try simp only [Act.put, sA]; try simp only [sB, sC]
    refine goH (i := 6) (by kernel_rfl) rfl (fun K_ hK_ => ?_)
    go_simp
    refine (numsC (z := zb) (vs := [k.need]) rfl rfl (show 9 * 1 ≤ 1000000000 by decide)).mono ?_
    rintro e w6 ⟨f6, caps6, T6, rfl, _, hL6, hT6⟩
    have hzb : w.heap.size ≤ zb := (NewA.monoS (w0 := w) (NewA.of_born (z := zb) 0)).out ⟨zb, 0, none⟩ rfl
    refine hK_.out _ _ inferInstance (fun _ => ?_)
    clear hK_ K_
    try simp only [Act.put, sA]; try simp only [sB, sC]
    refine goH (i := 7) (by kernel_rfl) rfl (fun K_ hK_ => ?_)
    rw [if_pos (by kernel_rfl)]
    refine wpr_of_list ?_
    (first | ((with_reducible apply (stop_dst (dst := some 8))); (try simp only [Act.put, sA, sB, sC]); ((with_reducible apply (wpl_bslice (dst := some 8))); (exact run_int1 _ _); intro zb wb _ _ _)) | ((with_reducible apply (stop_dst (dst := some 10))); (try simp only [Act.put, sA, sB, sC]); ((with_reducible apply (wpl_bslice (dst := some 10))); (exact run_fld2 _ _ _ _ _); intro zc wb _ _ _)))
    refine wpList_nil ?_
    unfold onlyN
    refine hK_.out _ _ inferInstance (fun _ => ?_)
    clear hK_ K_
    try simp only [Act.put, sA]; try simp only [sB, sC]
    refine goH (i := 8) (by kernel_rfl) rfl (fun K_ hK_ => ?_)
    go_simp
    refine (fields2 (z := zc) (hL5.later (stepN (w0 := w5)).chg (fun _ _ h => h)) (hL6.later (stepN (w0 := w6)).chg (fun _ _ h => h))).mono ?_
    rintro e w7 ⟨f7, caps7, T7, rfl, _, hL7, hT7⟩
    have hzc : w.heap.size ≤ zc := (NewA.monoS (w0 := w) (NewA.of_born (z := zc) 0)).out ⟨zc, 0, none⟩ rfl
    refine hK_.out _ _ inferInstance (fun _ => ?_)
    clear hK_ K_
    try simp only [Act.put, sA]; try simp only [sB, sC]
    refine' takeH (i := 9) (v := _) rfl (by kernel_rfl) (by kernel_rfl) (by kernel_rfl) (fun _ _ _ h => h) (yields_of (by rfl) (fun w' _ => ?_)) inferInstance ?_
    rotate_left
    · (go_simp; try with_reducible rfl)
    try simp only [Act.put, sA]; try simp only [sB, sC]
    refine wpAnyH_done (by kernel_rfl) ?_ _
  rotate_left 1
  focus
    rw [if_pos (by kernel_rfl)]
    refine wpr_of_list ?_
    (first | ((with_reducible apply (stop_dst (dst := some 8))); (try simp only [Act.put, sA, sB, sC]); ((with_reducible apply (wpl_bslice (dst := some 8))); (exact run_int1 _ _); intro zb wb _ _ _)) | ((with_reducible apply (stop_dst (dst := some 10))); (try simp only [Act.put, sA, sB, sC]); ((with_reducible apply (wpl_bslice (dst := some 10))); (exact run_fld2 _ _ _ _ _); intro zc wb _ _ _)))
    refine wpList_nil ?_
    unfold onlyN
    refine hK_.out _ _ inferInstance (fun _ => ?_)
    clear hK_ K_
    try simp only [Act.put, sA]; try simp only [sB, sC]
    refine goH (i := 2) (by kernel_rfl) rfl (fun K_ hK_ => ?_)
    go_simp
    refine (listH_calls (l := k.l) (fun x => x.l) nowhere (HKZ.out.rd.later (stepN (w0 := wzt)).chg) HKZ.out.len HN.out (fun _ h => h.elim) (fun x _ w1 _ => (fhash_calls x w1).mono (fun e w' ⟨f, caps, T, h1, h2, h3, h4⟩ => ⟨f, caps, T, h1, h2, h3, fun x hx => .inl (h4 x hx)⟩))).mono ?_
    rintro e w5 ⟨f5, caps5, T5, rfl, _, hL5, hT5⟩
    refine hK_.out _ _ inferInstance (fun _ => ?_)
    clear hK_ K_
    try simp only [Act.put, sA]; try simp only [sB, sC]
    refine goH (i := 6) (by kernel_rfl) rfl (fun K_ hK_ => ?_)
    go_simp
    refine (numsC (z := zb) (vs := [k.need]) rfl rfl (show 9 * 1 ≤ 1000000000 by decide)).mono ?_
    rintro e w6 ⟨f6, caps6, T6, rfl, _, hL6, hT6⟩
    have hzb : w.heap.size ≤ zb := (NewA.monoS (w0 := w) (NewA.of_born (z := zb) 0)).out ⟨zb, 0, none⟩ rfl
    refine hK_.out _ _ inferInstance (fun _ => ?_)
    clear hK_ K_
    try simp only [Act.put, sA]; try simp only [sB, sC]
    refine goH (i := 7) (by kernel_rfl) rfl (fun K_ hK_ => ?_)
    rw [if_pos (by kernel_rfl)]
    refine wpr_of_list ?_
    (first | ((with_reducible apply (stop_dst (dst := some 8))); (try simp only [Act.put, sA, sB, sC]); ((with_reducible apply (wpl_bslice (dst := some 8))); (exact run_int1 _ _); intro zb wb _ _ _)) | ((with_reducible apply (stop_dst (dst := some 10))); (try simp only [Act.put, sA, sB, sC]); ((with_reducible apply (wpl_bslice (dst := some 10))); (exact run_fld2 _ _ _ _ _); intro zc wb _ _ _)))
    refine wpList_nil ?_
    unfold onlyN
    refine hK_.out _ _ inferInstance (fun _ => ?_)
    clear hK_ K_
    try simp only [Act.put, sA]; try simp only [sB, sC]
    refine goH (i := 8) (by kernel_rfl) rfl (fun K_ hK_ => ?_)
    go_simp
    refine (fields2 (z := zc) (hL5.later (stepN (w0 := w5)).chg (fun _ _ h => h)) (hL6.later (stepN (w0 := w6)).chg (fun _ _ h => h))).mono ?_
    rintro e w7 ⟨f7, caps7, T7, rfl, _, hL7, hT7⟩
    have hzc : w.heap.size ≤ zc := (NewA.monoS (w0 := w) (NewA.of_born (z := zc) 0)).out ⟨zc, 0, none⟩ rfl
    refine hK_.out _ _ inferInstance (fun _ => ?_)
    clear hK_ K_
    try simp only [Act.put, sA]; try simp only [sB, sC]
    refine' takeH (i := 9) (v := _) rfl (by kernel_rfl) (by kernel_rfl) (by kernel_rfl) (fun _ _ _ h => h) (yields_of (by rfl) (fun w' _ => ?_)) inferInstance ?_
    rotate_left
    · (go_simp; try with_reducible rfl)
    try simp only [Act.put, sA]; try simp only [sB, sC]
    refine wpAnyH_done (by kernel_rfl) ?_ _
  rotate_left 1
  all_goals
    rw [← HKB.out] at hL7
    go_wp2_with fail
    go_ret
    refine ⟨f7, caps7, rfl, stepN, T7, hL7, fun x hx => ?_⟩
    rcases hT7 x hx with h | rfl | h | h
    · exact .inl (Nat.le_trans (stepN (w0 := w)).chg.size h)
    · exact .inl hzc
    · rcases hT5 x h with h | h | h
      · exact .inl (Nat.le_trans (stepN (w0 := w)).chg.size h)
      · exact .inr h
      · exact h.elim
    · rcases hT6 x h with h | rfl
      · exact .inl (Nat.le_trans (stepN (w0 := w)).chg.size h)
      · exact .inl hzb
end Go.Proofs.YthcleccofccbdaaGreat
end
section
open Go Go.RowKit
namespace Go.Proofs.YthcleccofccbdaaGreat
instance cellFKeysB : CellT Tryz.prog 107 := ⟨fun _ => by kernel_rfl, fun _ => by kernel_rfl⟩
instance cellFKeys : CellT Tryz.prog 183 := ⟨fun _ => by kernel_rfl, fun _ => by kernel_rfl⟩
instance zeroKeys : ZeroT Tryz.prog 42 #[.slice none 0 0, .int .i64 0] := ⟨.agg #[.slice none 0 0, .int .i64 0], fun _ => by kernel_rfl, rfl⟩
/-- the blocks that keys' rows lie in -/
def usedK (K : List KR) : Nat → Prop := fun x => ∃ k ∈ K, inRow k.A k.l x
def keyOk (k : KR) : Bool := isB k.l k.need
def rootOk (v e : Int) (K : List KR) : Bool := verB v && numB e && K.all keyOk
/-- keys' bytes -/
def keysE (K : List KR) : List UInt8 := K.flatMap fun k => keyB k.l k.need
end Go.Proofs.YthcleccofccbdaaGreat
end
section
open Go Go.RowKit
namespace Go.Proofs.YthcleccofccbdaaGreat
instance elemPin : ElemT Tryz.prog 50 122 2 24 (.agg #[.string ⟨#[]⟩, .int .i64 0]) := ⟨⟨Tryz.underlying50, by kernel_rfl, rfl, by decide⟩⟩
instance rowTPin : RowT Tryz.prog 122 2 := ⟨by kernel_rfl, _, Tryz.underlying122, rfl⟩
instance zeroPin : ZeroT Tryz.prog 122 #[.string ⟨#[]⟩, .int .i64 0] := ⟨.agg #[.string ⟨#[]⟩, .int .i64 0], fun _ => by kernel_rfl, rfl⟩
instance rowTSnap : RowT Tryz.prog 52 3 := ⟨by kernel_rfl, _, Tryz.underlying52, rfl⟩
instance zeroSnap : ZeroT Tryz.prog 52 #[.int .i64 0, .int .i64 0, .slice none 0 0] := ⟨.agg #[.int .i64 0, .int .i64 0, .slice none 0 0], fun _ => by kernel_rfl, rfl⟩
instance cellPins : CellT Tryz.prog 50 := ⟨fun _ => by kernel_rfl, fun _ => by kernel_rfl⟩
instance cellFPinB : CellT Tryz.prog 188 := ⟨fun _ => by kernel_rfl, fun _ => by kernel_rfl⟩
instance cellFPin : CellT Tryz.prog 194 := ⟨fun _ => by kernel_rfl, fun _ => by kernel_rfl⟩
theorem isNaN_calls (s : ByteArray) (w : World) : Calls Tryz.prog 177 #[.string s] w fun e w' => e = .returned (.bool false) ∧ w' = w := by
  have h : (!(s.toList == s.toList)) = false := by simp
  have h2 : (s.toList == s.toList) = true := by simp
  go_enter Tryz.func177, Tryz.ntmps177
  go_wp2_with fail
  go_ret
  exact ⟨rfl, rfl⟩
end Go.Proofs.YthcleccofccbdaaGreat
end
section
open Go Go.RowKit
namespace Go.Proofs.YthcleccofccbdaaGreat
/-- the blocks that pins lie in -/
def inPins (A : Option Addr) (P : List PinR) : Nat → Prop := fun x => cellsOf P ≠ [] ∧ rowOf A x
end Go.Proofs.YthcleccofccbdaaGreat
end
section
open Go Go.RowKit
namespace Go.Proofs.YthcleccofccbdaaGreat
/-- one digest as a slice of its own -/
theorem run_oneHW (hh : H32) (w : World) : (Instr.buildSlice 40 1 #[(0, .agg (u8s hh.l))]).run Tryz.prog w = .ok (.slice (some ⟨w.heap.size, 0, none⟩) 1 1) (w.alloc (.cells (u8s hh.l) 47)) := by
  have hs := hh.size
  have hz : ∀ w, (zeroValue 47).run Tryz.prog w = .ok (.agg (u8s zeroH.l)) w := fun _ => by kernel_rfl
  have hi : ∀ w, (sizeOf 47).run Tryz.prog w = .ok 32 w := fun _ => by kernel_rfl
  unfold Instr.buildSlice
  simp only [Sem.run_bind, run_underlying Tryz.underlying40, Result.andThen_ok, hi]
  have hf : Instr.fill (fun i => some (i * 32, 32)) ((Array.range (1 * 32)).map ((u8s zeroH.l)[· % (u8s zeroH.l).size]!)) [(0, Value.agg (u8s hh.l))] = some (u8s hh.l) := by
    rw [fill_step _ _ 0 (.agg (u8s hh.l)) [] (off := 0) (size := 32) rfl hs (by simp), lay_whole _ _ (by show (u8s hh.l).size = _; rw [hs]; simp)]
    rfl
  simp [hz, Value.cells, hf, newRow]
theorem RdrAt.far {S : Nat → Prop} {w w' : World} {g d : Nat} {s : RS} {m : Nat} (h : RdrAt w g d s) (hc : Chg S w w') (hS : ∀ x, S x → m ≤ x) (hg : g < m) (hd : s.b ≠ [] → d < m) : RdrAt w' g d s :=
  h.chg2 hc (fun e => by have := hS _ e; omega) (fun hne e => by have := hS _ e; have := hd hne; omega)
theorem hS_ne {s : RS} {k : Nat} (h : (hS s k).b ≠ []) : s.b ≠ [] := fun h0 => by
  have h1 := hS_le s k
  rw [h0] at h1
  exact h (List.eq_nil_of_length_eq_zero (by simpa using h1))
theorem num_ne {s : RS} (h : s.num.2.b ≠ []) : s.b ≠ [] := fun h0 => by
  have h1 := RS.num_le s
  rw [h0] at h1
  exact h (List.eq_nil_of_length_eq_zero (by simpa using h1))
theorem newA_grew {w0 w : World} {A A' : Option Addr} (g : Grew w A A') (h : NewA w0 A) (s : w0.heap.size ≤ w.heap.size) : NewA w0 A' := ⟨fun ad e => by
  rcases g.out with k | k
  · exact h.out ad (by rw [← k]; exact e)
  · rw [k] at e
    injection e with e
    subst e
    exact s⟩
theorem newA_none (w : World) : NewA w none := ⟨fun ad e => by cases e⟩
set_option maxRecDepth 100000 in
set_option maxHeartbeats 3200000 in
theorem takenH_calls {g d : Nat} {s : RS} {w : World} (hw : RdrAt w g d s) (hl : s.b.length ≤ 140737488351232) :
    Calls Tryz.prog 163 #[.pointer (some ⟨g, 0, none⟩), .int .i64 4, .func (.func 125) #[] #[]] w fun e w' => ∃ A n c, e = .returned (.slice A n c) ∧ Step (only g) w w' ∧ Hid (RdrAt w' g d (kM s)) ∧ HR w' A (cellsOf (kL s)) ∧ NewA w A ∧ Hid ((kL s).length = n ∧ n ≤ c ∧ n ≤ 1000) := by
  have HW0 := Lib.hid hw
  have HL := Lib.hid hl
  have hgl := hw.lt
  have hdl := hw.dlt
  obtain ⟨N, hN⟩ : ∃ N, N = s.num.1 := ⟨_, rfl⟩
  obtain ⟨S, hS1⟩ : ∃ S, S = s.num.2 := ⟨_, rfl⟩
  have HN := Lib.hid hN
  have HS := Lib.hid hS1
  have hSl : S.b.length ≤ 140737488351232 := by rw [hS1]; exact Nat.le_trans (RS.num_le s) hl
  have hSd : S.b ≠ [] → d < w.heap.size := fun h => hdl (num_ne (by rw [← hS1]; exact h))
  clear hw hl hN hS1
  go_enter Tryz.func163, Tryz.ntmps163
  go_wp2_with fail
  refine (Num_calls g d s w HW0.out (by have := HL.out; omega)).mono ?_
  rw [← HN.out, ← HS.out]
  rintro e w2 ⟨rfl, h2, c2⟩
  have st2 : Step (only g) w w2 := ⟨c2.out⟩
  clear c2
  by_cases h4 : 4 < N
  · have h4I : 4 < (N : Int) := by omega
    have HKM : Hid (kM s = RS.bad) := Lib.hid (by rw [kM, if_pos (by rw [← HN.out]; exact h4)])
    have HKL : Hid (kL s = []) := Lib.hid (by rw [kL, if_pos (by rw [← HN.out]; exact h4)])
    go_wp2_with (first | fail)
    refine (Bad_calls g d _ _ h2.out).mono ?_
    rintro e w3 ⟨rfl, h3, c3⟩
    have st3 : Step (only g) w2 w3 := ⟨c3.out⟩
    go_wp2_with (first | fail)
    go_ret
    refine ⟨none, 0, 0, rfl, ⟨st2.chg.trans st3.chg (fun _ _ h => h)⟩, ?_, ?_, newA_none _, Lib.hid ⟨?_, Nat.le_refl _, by decide⟩⟩
    · rw [HKM.out]; exact h3
    · rw [HKL.out]; infer_instance
    · rw [HKL.out]; rfl
  · have h4I : ¬ 4 < (N : Int) := by omega
    have HKM : Hid (kM s = hS S N) := Lib.hid (by rw [kM, if_neg (by rw [← HN.out]; exact h4), ← HN.out, ← HS.out])
    have HKL : Hid (kL s = hN S N) := Lib.hid (by rw [kL, if_neg (by rw [← HN.out]; exact h4), ← HN.out, ← HS.out])
    have hcell0 : HO w2 47 32 none 0 0 (cellsOf ([] : List H32)) := ⟨Own.nil _ _ _⟩
    go_wp2_with (first | fail)
    go_loopw [8, 17] (fun lv iv wr => ∃ (k : Nat) (A1 : Option Addr) (c1 : Nat), k ≤ N ∧ iv = .int .i64 (k : Int) ∧ lv = .slice A1 k c1 ∧ k ≤ c1 ∧ Step (only g) w wr ∧ HO wr 47 32 A1 k c1 (cellsOf (hN S k)) ∧ NewA w A1 ∧ Hid (RdrAt wr g d (hS S k))) (fun _ iv _ => N - (intOf iv).toNat)
    case atStart => exact ⟨0, none, 0, Nat.zero_le _, rfl, rfl, Nat.le_refl _, st2, hcell0, newA_none _, h2⟩
    case round =>
      clear st2 h2 hcell0
      obtain ⟨k, A1, c1, hk, rfl, rfl, hkc, st, hO, hA1, hR⟩ := hrel
      by_cases hlt : k < N
      · have hltI : (k : Int) < N := by omega
        have og : OffA (only g) A1 := ⟨fun ad e h => by have h' : ad.block = g := h; have := hA1.out ad e; omega⟩
        have hsl := hS_le S k
        have kbH := run_oneHW (hS S k).hsh
        go_wp2_with (first | fail)
        refine (takeHash_calls hR.out (by omega)).mono ?_
        rintro e w5 ⟨rfl, st5, h5⟩
        have H5 := Lib.hid h5
        have HNX : Hid (hN S k ++ [(hS S k).hsh] = hN S (k + 1)) := Lib.hid rfl
        have n5w : SzLe w w5 := inferInstance
        clear h5
        go_wp2_with (first | ((with_reducible apply (stop_dst (dst := some 23))); (try simp only [Act.put, sA, sB, sC]); ((with_reducible apply (wpl_bslice (dst := some 23))); (exact kbH _); intro zb wb _ _ _)) | ((with_reducible apply wpl_appendB); (exact rfl); (exact rfl); infer_instance; (first | exact inferInstance | exact ⟨Own.nil _ _ _⟩); infer_instance; (first | (with_reducible assumption) | (with_reducible exact H32.len _) | (focus (simp; done)) | omega); (first | (with_reducible assumption) | omega); intro A' c' wa _ _ _ hcap) | ((with_reducible apply wpl_appendH); (exact rfl); (exact rfl); infer_instance; (first | exact inferInstance | exact ⟨Own.nil _ _ _⟩); infer_instance; (first | (with_reducible assumption) | omega); intro A' c' wa _ _ _ hcap) | ((with_reducible apply (wpl_appendR (α := H32))); (exact rfl); (exact rfl); infer_instance; (first | exact inferInstance | exact ⟨Own.nil _ _ _⟩); infer_instance; (exact rfl); (first | (with_reducible assumption) | (with_reducible exact H32.len _) | (focus (simp; done)) | omega); (first | (with_reducible assumption) | omega); (decide); (decide); intro A' c' wa _ _ _ hcap))
        have hcA : Chg (rowOf A1) w5 wa := (inferInstance : Ch (rowOf A1) w5 wa).out
        refine ⟨⟨k + 1, A', c', by omega, by go_num, rfl, hcap, ⟨?_⟩, ?_, newA_grew inferInstance hA1 (Nat.le_trans n5w.out (inferInstance : SzLe w5 wb).out), Lib.hid ?_⟩, by simp [intOf]; omega⟩
        · exact (st.chg.trans st5.chg (fun _ _ h => h)).trans hcA (fun x hx ⟨ad, e, h⟩ => by have := hA1.out ad e; omega)
        · rw [← HNX.out]; infer_instance
        · exact H5.out.far hcA (m := w.heap.size) (fun x ⟨ad, e, h⟩ => by rw [← h]; exact hA1.out ad e) hgl (fun h => hSd (hS_ne (k := k + 1) h))
      · have hltI : ¬ (k : Int) < N := by omega
        have hkn : k = N := by omega
        subst hkn
        have HRR := hR
        go_wp2_with (first | fail)
        go_ret
        refine ⟨A1, k, c1, rfl, st, ?_, ?_, hA1, Lib.hid ⟨?_, hkc, by omega⟩⟩
        · rw [HKM.out]; exact HRR
        · rw [HKL.out]; exact ⟨hO.out.rd⟩
        · rw [HKL.out, hN_len]
end Go.Proofs.YthcleccofccbdaaGreat
end
section
open Go Go.RowKit
namespace Go.Proofs.YthcleccofccbdaaGreat
section
variable {P : Program} {ops : Array Oper} {rest : List Oper} {a : Act} {w : World} {Q : Exit → Act → World → Prop} {dst : Option Tmp} {ty : TypeId} {pos : String} {after : Array Edge} {gd : Option (Nat × Bool)}
end
/-- keys that are all at hand, in rows of their own -/
def KsIn (w0 w : World) (K : List KR) : Prop := ∀ k ∈ K, KIn w k ∧ NewA w0 k.A
theorem KsIn.chg {S : Nat → Prop} {w0 w w' : World} {K : List KR} (h : KsIn w0 w K) (hc : Chg S w w') (hS : ∀ x, S x → x < w0.heap.size) : KsIn w0 w' K := fun k hk => ⟨(h k hk).1.chg hc (fun x ⟨_, ad, e, hx⟩ hs => by
  have := (h k hk).2.out ad e
  have := hS x hs
  omega), (h k hk).2⟩
theorem KsIn.set {w0 w : World} {K : List KR} (h : KsIn w0 w K) (i : Nat) {k : KR} (h1 : KIn w k) (h2 : NewA w0 k.A) : KsIn w0 w (K.set i k) := fun x hx => by
  rcases List.mem_or_eq_of_mem_set hx with h3 | rfl
  · exact h x h3
  · exact ⟨h1, h2⟩
theorem KsIn.none (w0 w : World) : KsIn w0 w noK := fun k hk => by
  refine ⟨noKIn w k hk, ?_⟩
  simp only [noK, List.mem_cons, List.not_mem_nil, or_false] at hk
  have : k = noKR := by rcases hk with h | h | h | h <;> exact h
  subst this
  exact ⟨fun ad e => by cases e⟩
theorem KsIn.first {w0 w1 w : World} {K : List KR} (h : KsIn w1 w K) (hs : w0.heap.size ≤ w1.heap.size) : KsIn w0 w K := fun k hk => ⟨(h k hk).1, ⟨fun ad e => Nat.le_trans hs ((h k hk).2.out ad e)⟩⟩
end Go.Proofs.YthcleccofccbdaaGreat
end
section
open Go Go.RowKit
namespace Go.Proofs.YthcleccofccbdaaGreat
theorem run_keysKR (k : KR) (w : World) : (Instr.build 42 #[(0, .slice k.A k.n k.c), (1, .int .i64 k.need)]).run Tryz.prog w = .ok (.agg (RowC.enc k).toArray) w := by kernel_rfl
theorem kR_ne {s : RS} (h : (kR s).b ≠ []) : s.b ≠ [] := fun h0 => by
  have h1 := kR_le s
  rw [h0] at h1
  exact h (List.eq_nil_of_length_eq_zero (by simpa using h1))
set_option maxRecDepth 100000 in
set_option maxHeartbeats 1600000 in
theorem takeKeys_calls {g d : Nat} {s : RS} {w : World} (hw : RdrAt w g d s) (hl : s.b.length ≤ 140737488351232) :
    Calls Tryz.prog 124 #[.pointer (some ⟨g, 0, none⟩)] w fun e w' => ∃ k : KR, e = .returned (.agg (RowC.enc k).toArray) ∧ Step (only g) w w' ∧ Hid (RdrAt w' g d (kR s)) ∧ Hid (k.m = (kL s, (kD s : Int))) ∧ KIn w' k ∧ NewA w k.A := by
  have HW0 := Lib.hid hw
  have HL := Lib.hid hl
  have hgl := hw.lt
  have hdl := hw.dlt
  obtain ⟨D, hD⟩ : ∃ D, D = kD s := ⟨_, rfl⟩
  have HD := Lib.hid hD
  have hml := kM_le s
  have hsz0 : ∀ k : KR, (RowC.enc k).toArray.size = 2 := fun _ => rfl
  clear hw hl hD
  go_enter Tryz.func124, Tryz.ntmps124
  go_wp2_with (first | ((with_reducible apply (wpl_alloc (dst := some 2))); intro zo wzo _ _ _))
  have hzo : w.heap.size ≤ zo := Nat.le_of_eq (inferInstance : Born w zo).eq.symm
  have hzl : zo < wzo.heap.size := (inferInstance : HB wzo zo 42 #[.slice none 0 0, .int .i64 0]).out.lt
  have ozo : OffB (only g) zo := ⟨fun e => by have e' : zo = g := e; omega⟩
  refine (takenH_calls (HW0.out.chg (stepN (w0 := w)).chg (fun h => h) (fun h => h)) HL.out).mono ?_
  rintro e w2 ⟨A, n, c, rfl, st2, h2, hr2, hA2, hn2⟩
  go_wp2_with fail
  refine (Num_calls g d (kM s) w2 h2.out (by have := HL.out; omega)).mono ?_
  rw [show (kM s).num.1 = D from HD.out.symm]
  rintro e w3 ⟨rfl, h3, c3⟩
  have st3 : Step (only g) w2 w3 := ⟨c3.out⟩
  have hA2w : NewA w A := NewA.monoS (w0 := w) hA2
  have og : OffR (only g) A (cellsOf (kL s)) := ⟨fun _ ad e h => by have h' : ad.block = g := h; have := hA2w.out ad e; omega⟩
  obtain ⟨k, hk⟩ : ∃ k : KR, k = ⟨A, n, c, kL s, D⟩ := ⟨_, rfl⟩
  have kb := run_keysKR k
  have hzo3 : HB w3 zo 42 #[.slice none 0 0, .int .i64 0] := inferInstance
  have hr3 : HR w3 A (cellsOf (kL s)) := inferInstance
  have hk1 : k.A = A := by rw [hk]
  have hk2 : k.n = n := by rw [hk]
  have hk3 : k.c = c := by rw [hk]
  have hk4 : k.l = kL s := by rw [hk]
  have hk5 : k.need = (D : Int) := by rw [hk]
  rw [hk1, hk2, hk3, hk5] at kb
  have HKE := Lib.hid (show k.m = (kL s, (kD s : Int)) by rw [KR.m, hk4, hk5, HD.out])
  have HKI : Hid (KIn w3 k) := Lib.hid ⟨by rw [hk1, hk4]; exact hr3.out, by rw [hk4, hk2]; exact hn2.out.1, by rw [hk2, hk3]; exact hn2.out.2.1, by rw [hk2]; exact hn2.out.2.2⟩
  have hkA : NewA w k.A := by rw [hk1]; exact hA2w
  have HkA := Lib.hid hk1
  have hok := enc_one k
  clear hk hk1 hk2 hk3 hk4 hk5
  go_wp2_with (first | ((with_reducible apply wpl_build); (exact kb _)) | ((with_reducible apply wpl_storerow); (exact rfl); (exact rfl); infer_instance; infer_instance; (first | (with_reducible assumption) | (with_reducible exact H32.size _) | kernel_rfl); (first | (with_reducible assumption) | (with_reducible exact H32.size _) | kernel_rfl); (first | (with_reducible exact u8s_one _) | (with_reducible assumption) | kernel_rfl); intro ws _ _))
  refine ret_row rfl rfl (n := 2) rfl rfl ⟨k, rfl, stepC, ?_, HKE, ?_, hkA⟩
  · exact Lib.hid (h3.out.far (inferInstance : Step (only zo) w3 ws).chg (m := w.heap.size) (fun x hx => by have hx' : x = zo := hx; omega) hgl (fun h => hdl (kR_ne h)))
  · exact HKI.out.chg (inferInstance : Step (only zo) w3 ws).chg (fun x hx e => by
      have e' : x = zo := e
      obtain ⟨_, ad, e2, hx⟩ := hx
      rw [HkA.out] at e2
      have h5 := hA2.out ad e2
      omega)
theorem run_ptr2R (a b : Option Addr) (w : World) : (Instr.buildSlice 209 2 #[(0, .pointer a), (1, .pointer b)]).run Tryz.prog w = .ok (.slice (some ⟨w.heap.size, 0, none⟩) 2 2) (w.alloc (.cells #[.pointer a, .pointer b] 173)) := by kernel_rfl
end Go.Proofs.YthcleccofccbdaaGreat
end
section
open Go Go.RowKit
namespace Go.Proofs.YthcleccofccbdaaGreat
theorem HB.cells {α : Type} [RowC α] {w : World} {z : Nat} {t : TypeId} {l : List α} (h : HB w z t (cellsOf l).toArray) : HR w (some ⟨z, 0, none⟩) (cellsOf l) := ⟨by
  have h1 := h.rdL
  simpa using h1⟩
end Go.Proofs.YthcleccofccbdaaGreat
end
section
open Go Go.RowKit
namespace Go.Proofs.YthcleccofccbdaaGreat
section
variable {P : Program} {ops : Array Oper} {rest : List Oper} {a : Act} {w : World} {Q : Exit → Act → World → Prop} {dst : Option Tmp} {ty : TypeId} {pos : String} {after : Array Edge} {gd : Option (Nat × Bool)}
/-- a part of a block, whole -/
theorem ev_loadpart {t : TypeId} {x : Operand} {g k n : Nat} (hx : a.eval x = .pointer (some ⟨g, k, none⟩)) {tb : TypeId} {cs : Array Value} (hb : HB w g tb cs) (ht : RowT P t n) (hn : 0 < n) {vs : List Value} (hv : (cs.toList.drop k).take n = vs) (hl : vs.length = n) :
    (execOp a.eval ⟨dst, .load t x, ty, pos, after, gd⟩).run P w = .ok (.value (.agg vs.toArray)) w := by
  show ((Instr.loadAt t (a.eval x)) >>= fun v => pure (Next.value v)).run P w = _
  have e : a.eval x = ptrOf (some ⟨g, 0, none⟩) k := by
    rw [hx]
    simp [ptrOf, shift, add_row]
  rw [e, Sem.run_bind, run_loadshift (k := k) (cs := vs) hb.rdL ht hl hv hn]
  rfl
theorem wpl_loadpart {t : TypeId} {x : Operand} {g k n : Nat} (hx : a.eval x = .pointer (some ⟨g, k, none⟩)) {tb : TypeId} {cs : Array Value} (hb : HB w g tb cs) (ht : RowT P t n) (hn : 0 < n) {vs : List Value} (hv : (cs.toList.drop k).take n = vs) (hl : vs.length = n)
    (h : wpList P ops Q rest (a.put dst (.agg vs.toArray)) w) : wpList P ops Q (⟨dst, .load t x, ty, pos, after, none⟩ :: rest) a w := wpl_of_run rfl (ev_loadpart hx hb ht hn hv hl) h
end
end Go.Proofs.YthcleccofccbdaaGreat
end
section
open Go Go.RowKit
namespace Go.Proofs.YthcleccofccbdaaGreat
theorem flatH_len (l : List H32) : (flatH l).length = 32 * l.length := by
  induction l with
  | nil => rfl
  | cons a l ih =>
    have e : flatH (a :: l) = a.l ++ flatH l := rfl
    rw [e, List.length_append, ih, a.len, List.length_cons]
    omega
theorem keyB_len (l : List H32) (need : Int) : (keyB l need).length ≤ 18 + 32 * l.length := by
  have a1 := encAll_len [(l.length : Int)]
  have a2 := encAll_len [need]
  simp only [keyB, List.length_append, flatH_len, List.length_cons, List.length_nil] at *
  omega
end Go.Proofs.YthcleccofccbdaaGreat
end
section
open Go Go.RowKit
namespace Go.Proofs.YthcleccofccbdaaGreat
/-- what is decoded -/
def rtM (b : List UInt8) : Int × Int × List (List H32 × Int) × Int := if rtOk b then (rtV b, rtX b, kK (rtS b) 4, 0) else (0, 0, noK.map KR.m, 2)
def DecRt (b : List UInt8) (w : World) : Ending → World → Prop := fun e w' => Step nowhere w w' ∧ ∃ v x K err, e = .returned (.tuple #[.agg (rtL v x K).toArray, .int .i64 err]) ∧ Hid (K.length = 4 ∧ (v, x, K.map KR.m, err) = rtM b) ∧ Hid (KsIn w w' K)
end Go.Proofs.YthcleccofccbdaaGreat
end
section
open Go Go.RowKit
namespace Go.Proofs.YthcleccofccbdaaGreat
end Go.Proofs.YthcleccofccbdaaGreat
end
section
open Go Go.RowKit
namespace Go.Proofs.YthcleccofccbdaaGreat
section
variable {P : Program} {a : Act} {w : World} {dst : Option Tmp} {ty : TypeId} {pos : String} {after : Array Edge} {gd : Option (Nat × Bool)}
end
set_option maxRecDepth 100000 in
set_option maxHeartbeats 1600000 in
theorem sameKeys_calls (a b : KR) {w : World} (ha : KIn w a) (hb : KIn w b) (hm : a.m = b.m) :
    Calls Tryz.prog 51 #[.agg (RowC.enc a).toArray, .agg (RowC.enc b).toArray] w fun e w' => e = .returned (.bool true) ∧ Step nowhere w w' := by
  have HA := Lib.hid ha
  have HB' := Lib.hid hb
  have h1 : a.l = b.l := congrArg Prod.fst hm
  have h2 : a.need = b.need := congrArg Prod.snd hm
  have hd : decide (a.l = b.l) = true := decide_eq_true h1
  have HD := Lib.hid hd
  have hq : (a.need == b.need) = true := by rw [h2]; simp
  have hsa : (RowC.enc a).toArray.size = 2 := rfl
  have hsb : (RowC.enc b).toArray.size = 2 := rfl
  clear ha hb hm h1 h2 hd
  go_enter Tryz.func51, Tryz.ntmps51
  go_wp2_with (first | ((with_reducible apply (wpl_box_agg (dst := some 2))); (exact rfl); intro za wza _ _ _) | ((with_reducible apply (wpl_box_agg (dst := some 3))); (exact rfl); intro zb wzb _ _ _) | ((with_reducible apply (wpl_guard (op := .load _ _))); (exact rfl)) | ((with_reducible apply (wpl_guard (op := .fieldAddr _ _ _))); (exact rfl)) | ((with_reducible apply wpl_loadcellN); (exact rfl); infer_instance; (exact rfl)))
  have hrA : HR wzb a.A (cellsOf a.l) := ⟨HA.out.rd.later (stepN (w0 := w)).chg⟩
  have hrB : HR wzb b.A (cellsOf b.l) := ⟨HB'.out.rd.later (stepN (w0 := w)).chg⟩
  refine (hashes_calls (l := a.l) (m := b.l) HA.out.len HB'.out.len (Nat.le_trans HA.out.le (by decide))).mono ?_
  rw [HD.out]
  rintro e w5 ⟨rfl, _⟩
  go_wp2_with fail
  go_ret
  exact ⟨rfl, stepN⟩
def sumK (K : List KR) : Nat := (K.map (·.n)).sum
end Go.Proofs.YthcleccofccbdaaGreat
end
