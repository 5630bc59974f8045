/- QmA, QmR -/
import Derived.Test.YtcgbgeheiklhhaaGreatTfMapH
import Derived.Test.YtcgbgeheiklhhaaGreatTfRowE
import Derived.Test.YtcgbgeheiklhhaaGreatTfKyD
section
open Go Go.RowKit
namespace Go.Proofs.YtcgbgeheiklhhaaGreat
/-- a mark, and what its two rows hold -/
structure MarkR where
  key : H32
  leaf : Int
  A : Option Addr
  c : Nat
  l : List H32
  B : Option Addr
  k : Nat
  p : List H32
def MarkR.sig (r : MarkR) : List Value := [.int .i64 r.leaf, .slice r.A r.l.length r.c, .slice r.B r.p.length r.k]
instance : RowC MarkR := ⟨35, fun r => bs r.key.l ++ r.sig, fun r => by simp [MarkR.sig, bs_length], fun r u hu => by
  rcases List.mem_append.1 hu with h | h
  · exact bs_one r.key.l u h
  · simp only [MarkR.sig, List.mem_cons, List.not_mem_nil, or_false] at h
    rcases h with rfl | rfl | rfl <;> rfl, ⟨zeroH, 0, none, 0, [], none, 0, []⟩⟩
theorem mark_key (r : MarkR) : ((RowC.enc r).drop 0).take 32 = bs r.key.l := by
  show (bs r.key.l ++ r.sig).take 32 = _
  rw [List.take_left' (by rw [bs_length, r.key.len])]
theorem mark_sig (r : MarkR) : ((RowC.enc r).drop 32).take 3 = [.int .i64 r.leaf, .slice r.A r.l.length r.c, .slice r.B r.p.length r.k] := by
  show ((bs r.key.l ++ r.sig).drop 32).take 3 = _
  rw [List.drop_left' (by rw [bs_length, r.key.len])]
  rfl
/-- the rows of a mark, as they stand in this world -/
def MarkIn (w : World) (r : MarkR) : Prop := Rd w r.A (cellsOf r.l) ∧ Rd w r.B (cellsOf r.p)
theorem MarkIn.nw {w0 w : World} [n : Nw w0 w] {r : MarkR} (h : MarkIn w0 r) : MarkIn w r := ⟨h.1.chg n.out (fun _ _ _ h => h), h.2.chg n.out (fun _ _ _ h => h)⟩
instance : ElemT Tryz.prog 37 67 35 88 (.agg (u8s zeroH.l ++ #[.int .i64 0, .slice none 0 0, .slice none 0 0])) := ⟨⟨Tryz.underlying37, by kernel_rfl, rfl, by decide⟩⟩
instance : RowT Tryz.prog 67 35 := ⟨by kernel_rfl, _, Tryz.underlying67, rfl⟩
instance : RowT Tryz.prog 39 2 := ⟨by kernel_rfl, _, Tryz.underlying39, rfl⟩
instance : RowT Tryz.prog 74 2 := ⟨by kernel_rfl, _, Tryz.underlying74, rfl⟩
instance : CellT Tryz.prog 36 := ⟨fun _ => by kernel_rfl, fun _ => by kernel_rfl⟩
instance : CellT Tryz.prog 37 := ⟨fun _ => by kernel_rfl, fun _ => by kernel_rfl⟩
/-- a mark tells that a key has signed bytes -/
def signsB (m : List UInt8) (h : H32) (r : MarkR) : Bool := decide (r.key = h) && verifyS h m r.leaf r.l r.p
/-- those that signed, of the first keys -/
def whoN (m : List UInt8) (l : List MarkR) (ks : List H32) : Nat → List H32
  | 0 => []
  | k + 1 => whoN m l ks k ++ (if hget ks k ∈ ks.take k then [] else if (l.take 4).any (signsB m (hget ks k)) then [hget ks k] else [])
section
variable {P : Program} {ops : Array Oper} {rest : List Oper} {a : Act} {w : World} {Q : Exit → Act → World → Prop} {dst : Option Tmp} {ty : TypeId} {pos : String} {after : Array Edge} {gd : Option (Nat × Bool)}
/-- a part of an element, whole -/
theorem ev_loadEP {α : Type} [RowC α] {t : TypeId} {x : Operand} {A : Option Addr} {k j s n : Nat} (ht : RowT P t n) (hx : a.eval x = ptrOf A (k * s + j)) {l : List α} (hr : HR w A (cellsOf l)) (hs : RowC.size α = s) (hn : 0 < n) (hk : k < l.length) {vs : List Value} (hv : ((RowC.enc (gt l k)).drop j).take n = vs) (hl : vs.length = n) :
    (execOp a.eval ⟨dst, .load t x, ty, pos, after, gd⟩).run P w = .ok (.value (.agg vs.toArray)) w := by
  show ((Instr.loadAt t (a.eval x)) >>= fun v => pure (Next.value v)).run P w = _
  subst hs
  have hlen : j + n ≤ RowC.size α := by
    have h1 := congrArg List.length hv
    rw [List.length_take, List.length_drop, RowC.len, hl] at h1
    omega
  have hc : ((cellsOf l).drop (k * RowC.size α + j)).take n = vs := by
    have h2 := cellsOf_at l k hk
    have h3 : (((cellsOf l).drop (k * RowC.size α)).drop j).take n = (((((cellsOf l).drop (k * RowC.size α)).take (RowC.size α))).drop j).take n := by
      rw [List.drop_take, List.take_take, Nat.min_eq_left (by omega)]
    rw [← List.drop_drop, h3, h2]
    exact hv
  rw [hx, Sem.run_bind, run_loadshift (k := k * RowC.size α + j) (cs := vs) hr.out ht hl hc hn]
  rfl
/-- a part of a block, whole -/
theorem ev_loadpart {t : TypeId} {x : Operand} {g k n : Nat} (hx : a.eval x = .pointer (some ⟨g, k, none⟩)) {tb : TypeId} {cs : Array Value} (hb : HB w g tb cs) (ht : RowT P t n) (hn : 0 < n) {vs : List Value} (hv : (cs.toList.drop k).take n = vs) (hl : vs.length = n) :
    (execOp a.eval ⟨dst, .load t x, ty, pos, after, gd⟩).run P w = .ok (.value (.agg vs.toArray)) w := by
  show ((Instr.loadAt t (a.eval x)) >>= fun v => pure (Next.value v)).run P w = _
  have e : a.eval x = ptrOf (some ⟨g, 0, none⟩) k := by
    rw [hx]
    simp [ptrOf, shift, add_row]
  rw [e, Sem.run_bind, run_loadshift (k := k) (cs := vs) (HR.ofBlkL hb).out ht hl hv hn]
  rfl
theorem wpl_loadpart {t : TypeId} {x : Operand} {g k n : Nat} (hx : a.eval x = .pointer (some ⟨g, k, none⟩)) {tb : TypeId} {cs : Array Value} (hb : HB w g tb cs) (ht : RowT P t n) (hn : 0 < n) {vs : List Value} (hv : (cs.toList.drop k).take n = vs) (hl : vs.length = n)
    (h : wpList P ops Q rest (a.put dst (.agg vs.toArray)) w) : wpList P ops Q (⟨dst, .load t x, ty, pos, after, none⟩ :: rest) a w := wpl_of_run rfl (ev_loadpart hx hb ht hn hv hl) h
theorem ev_loadEPH {α : Type} [RowC α] {t : TypeId} {x : Operand} {A : Option Addr} {k j s : Nat} (ht : RowT P t 32) (hx : a.eval x = ptrOf A (k * s + j)) {l : List α} (hr : HR w A (cellsOf l)) (hs : RowC.size α = s) (hk : k < l.length) {hh : H32} (hv : ((RowC.enc (gt l k)).drop j).take 32 = bs hh.l) :
    (execOp a.eval ⟨dst, .load t x, ty, pos, after, gd⟩).run P w = .ok (.value (.agg (u8s hh.l))) w := ev_loadEP ht hx hr hs (by decide) hk hv (by rw [bs_length, hh.len])
theorem wpl_loadpartH {t : TypeId} {x : Operand} {g k : Nat} (hx : a.eval x = .pointer (some ⟨g, k, none⟩)) {tb : TypeId} {cs : Array Value} (hb : HB w g tb cs) (ht : RowT P t 32) {hh : H32} (hv : (cs.toList.drop k).take 32 = bs hh.l)
    (h : wpList P ops Q rest (a.put dst (.agg (u8s hh.l))) w) : wpList P ops Q (⟨dst, .load t x, ty, pos, after, none⟩ :: rest) a w := wpl_loadpart hx hb ht (by decide) hv (by rw [bs_length, hh.len]) h
end
theorem verifyM_calls {M : Option Addr} {nb cb : Nat} {m : List UInt8} (pub : H32) (r : MarkR) (w0 : World) {w : World} [n : Nw w0 w] [hM : HR w M (bs m)] (hr : MarkIn w0 r) (hm : m.length = nb) (hc : nb ≤ cb) (hn : nb ≤ 140737488351232) :
    Calls Tryz.prog 90 #[.agg (u8s pub.l), .slice M nb cb, .agg #[.int .i64 r.leaf, .slice r.A r.l.length r.c, .slice r.B r.p.length r.k]] w fun e w' => e = .returned (.bool (verifyS pub m r.leaf r.l r.p)) ∧ Step nowhere w w' := by
  have h1 : HR w r.A (cellsOf r.l) := ⟨(MarkIn.nw (w := w) hr).1⟩
  have h2 : HR w r.B (cellsOf r.p) := ⟨(MarkIn.nw (w := w) hr).2⟩
  exact verifyW_calls pub r.leaf hm hc hn rfl rfl
theorem rverifyM_calls {M : Option Addr} {nb cb : Nat} {m : List UInt8} (pub : H32) (r : MarkR) (w0 : World) {w : World} [n : Nw w0 w] [hM : HR w M (bs m)] (hr : MarkIn w0 r) (hm : m.length = nb) (hn : nb ≤ 140737488351232) :
    Calls Tryz.prog 73 #[.agg (u8s pub.l), .slice M nb cb, .agg #[.int .i64 r.leaf, .slice r.A r.l.length r.c, .slice r.B r.p.length r.k]] w fun e w' => e = .returned (.bool (verifyS pub m r.leaf r.l r.p)) ∧ Step nowhere w w' := by
  have h1 : HR w r.A (cellsOf r.l) := ⟨(MarkIn.nw (w := w) hr).1⟩
  have h2 : HR w r.B (cellsOf r.p) := ⟨(MarkIn.nw (w := w) hr).2⟩
  exact rverifyW_calls pub r.leaf hm hn rfl rfl
end Go.Proofs.YtcgbgeheiklhhaaGreat
end
section
open Go Go.RowKit
namespace Go.Proofs.YtcgbgeheiklhhaaGreat
def zeroM (h : H32) : MarkR := ⟨h, 0, none, 0, [], none, 0, []⟩
theorem enc_mark (r : MarkR) : RowC.enc r = bs r.key.l ++ [.int .i64 r.leaf, .slice r.A r.l.length r.c, .slice r.B r.p.length r.k] := rfl
theorem lay_mark0 (h : H32) : lay 0 (u8s h.l) (RowC.enc (zeroM zeroH)).toArray = (RowC.enc (zeroM h)).toArray := by
  apply Array.ext'
  have e : (RowC.enc (zeroM zeroH)).drop 32 = [.int .i64 0, .slice none 0 0, .slice none 0 0] := by
    rw [enc_mark, List.drop_left' (by rw [bs_length]; exact zeroH.len)]
    rfl
  rw [lay]
  simp [u8s_size, e]
  rfl
theorem lay_mark1 (r : MarkR) : lay 32 #[.int .i64 r.leaf, .slice r.A r.l.length r.c, .slice r.B r.p.length r.k] (RowC.enc (zeroM r.key)).toArray = (RowC.enc r).toArray := by
  apply Array.ext'
  have e : (RowC.enc (zeroM r.key)).take 32 = bs r.key.l := by
    rw [enc_mark, List.take_left' (by rw [bs_length]; exact r.key.len)]
    rfl
  have e2 : (RowC.enc (zeroM r.key)).length = 35 := RowC.len _
  show (RowC.enc (zeroM r.key)).take 32 ++ [.int .i64 r.leaf, .slice r.A r.l.length r.c, .slice r.B r.p.length r.k] ++ (RowC.enc (zeroM r.key)).drop (32 + 3) = RowC.enc r
  rw [e, List.drop_of_length_le (by rw [e2]; decide), enc_mark, List.append_nil]
set_option maxRecDepth 100000 in
theorem run_mark (r : MarkR) (w : World) : (Instr.build 67 #[(0, .agg (u8s r.key.l)), (1, .agg #[.int .i64 r.leaf, .slice r.A r.l.length r.c, .slice r.B r.p.length r.k])]).run Tryz.prog w = .ok (.agg (RowC.enc r).toArray) w := by
  refine run_build_struct Tryz.underlying67 (zv := .agg (RowC.enc (zeroM zeroH)).toArray) (fun _ => by kernel_rfl) (places := #[(0, 32), (32, 3)]) (fun _ => by kernel_rfl) ?_ w
  have h1 : ∀ q : MarkR, (RowC.enc q).toArray.size = 35 := fun q => RowC.len q
  show Instr.fill _ (RowC.enc (zeroM zeroH)).toArray [(0, .agg (u8s r.key.l)), (1, .agg #[.int .i64 r.leaf, .slice r.A r.l.length r.c, .slice r.B r.p.length r.k])] = _
  rw [fill_step _ _ 0 _ _ (off := 0) (size := 32) rfl (by show (u8s r.key.l).size = 32; exact r.key.size) (by rw [h1]; decide)]
  rw [show lay 0 (Value.agg (u8s r.key.l)).cells (RowC.enc (zeroM zeroH)).toArray = (RowC.enc (zeroM r.key)).toArray from lay_mark0 r.key]
  rw [fill_step _ _ 1 _ _ (off := 32) (size := 3) rfl rfl (by rw [h1]; decide)]
  rw [show lay 32 (Value.agg #[Value.int .i64 r.leaf, .slice r.A r.l.length r.c, .slice r.B r.p.length r.k]).cells (RowC.enc (zeroM r.key)).toArray = (RowC.enc r).toArray from lay_mark1 r]
  rfl
/-- one mark as a slice of its own -/
theorem run_oneM (r : MarkR) (w : World) : (Instr.buildSlice 37 1 #[(0, .agg (RowC.enc r).toArray)]).run Tryz.prog w = .ok (.slice (some ⟨w.heap.size, 0, none⟩) 1 1) (w.alloc (.cells (RowC.enc r).toArray 67)) := by
  have hs : (RowC.enc r).toArray.size = 35 := RowC.len r
  have hz : ∀ w, (zeroValue 67).run Tryz.prog w = .ok (.agg (RowC.enc (zeroM zeroH)).toArray) w := fun _ => by kernel_rfl
  have hi : ∀ w, (sizeOf 67).run Tryz.prog w = .ok 35 w := fun _ => by kernel_rfl
  have hz1 : (RowC.enc (zeroM zeroH)).toArray.size = 35 := RowC.len (zeroM zeroH)
  obtain ⟨Z, hZ⟩ : ∃ Z : Array Value, Z = (RowC.enc (zeroM zeroH)).toArray := ⟨_, rfl⟩
  obtain ⟨R, hR⟩ : ∃ R : Array Value, R = (RowC.enc r).toArray := ⟨_, rfl⟩
  rw [← hZ] at hz hz1
  rw [← hR] at hs ⊢
  clear hZ hR
  unfold Instr.buildSlice
  simp only [Sem.run_bind, run_underlying Tryz.underlying37, Result.andThen_ok, hi]
  have hf : Instr.fill (fun i => some (i * 35, 35)) ((Array.range (1 * 35)).map (Z[· % Z.size]!)) [(0, Value.agg R)] = some R := by
    rw [fill_step _ _ 0 (.agg R) [] (off := 0) (size := 35) rfl hs (by simp), lay_whole _ _ (by show R.size = _; rw [hs]; simp)]
    rfl
  simp [hz, Value.cells, hf, newRow]
end Go.Proofs.YtcgbgeheiklhhaaGreat
end
