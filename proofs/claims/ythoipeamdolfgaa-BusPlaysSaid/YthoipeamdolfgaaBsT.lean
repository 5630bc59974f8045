/- The bus's types; rows of frames, rows of frames that wait. -/
import Derived.Test.YthoipeamdolfgaaBsS
import Derived.Test.YthoipeamdolfgaaConv
import Derived.Test.YthoipeamdolfgaaProg
import Derived.Laws.Bits64
open Go Go.RowKit
namespace Go.Proofs.Ythoipeamdolfgaa
instance : CellT Try.prog 5 := ⟨fun _ => by kernel_rfl, fun _ => by kernel_rfl⟩
instance : CellT Try.prog 3 := ⟨fun _ => by kernel_rfl, fun _ => by kernel_rfl⟩
instance : CellT Try.prog 31 := ⟨fun _ => by kernel_rfl, fun _ => by kernel_rfl⟩
instance : CellT Try.prog 84 := ⟨fun _ => by kernel_rfl, fun _ => by kernel_rfl⟩
instance : CellT Try.prog 41 := ⟨fun _ => by kernel_rfl, fun _ => by kernel_rfl⟩
instance : ZeroT Try.prog 45 #[.int .i64 0, .slice none 0 0] := ⟨.agg #[.int .i64 0, .slice none 0 0], fun _ => by kernel_rfl, rfl⟩
instance : ZeroT Try.prog 91 #[.int .i64 0, .slice none 0 0, .int .i64 0] := ⟨.agg #[.int .i64 0, .slice none 0 0, .int .i64 0], fun _ => by kernel_rfl, rfl⟩
instance : RowT Try.prog 45 2 := ⟨by kernel_rfl, _, Try.underlying45, rfl⟩
instance : RowT Try.prog 91 3 := ⟨by kernel_rfl, _, Try.underlying91, rfl⟩
instance : RowT Try.prog 86 2 := ⟨by kernel_rfl, _, Try.underlying86, rfl⟩
instance : ElemT Try.prog 31 5 1 1 (.int .u8 0) := ⟨⟨Try.underlying31, by kernel_rfl, rfl, by decide⟩⟩
instance : ElemT Try.prog 41 45 2 32 (.agg #[.int .i64 0, .slice none 0 0]) := ⟨⟨Try.underlying41, by kernel_rfl, rfl, by decide⟩⟩
instance : ElemT Try.prog 84 91 3 40 (.agg #[.int .i64 0, .slice none 0 0, .int .i64 0]) := ⟨⟨Try.underlying84, by kernel_rfl, rfl, by decide⟩⟩
/-- a frame -/
structure FR where
  id : Int
  A : Option Addr
  n : Nat
  c : Nat
  d : List UInt8
instance : RowC FR := ⟨2, fun f => [.int .i64 f.id, .slice f.A f.n f.c], fun _ => rfl, fun f u hu => by
    simp only [List.mem_cons, List.not_mem_nil, or_false] at hu
    rcases hu with rfl | rfl <;> rfl, ⟨0, none, 0, 0, []⟩⟩
/-- frames' bytes can be read -/
def FOk (w : World) (l : List FR) : Prop := ∀ f ∈ l, Rd w f.A (bs f.d) ∧ f.d.length = f.n ∧ f.n ≤ f.c
class HFs (w : World) (l : List FR) : Prop where
  out : FOk w l
class OffF (S : Nat → Prop) (l : List FR) : Prop where
  out : ∀ f ∈ l, Apart S f.A (bs f.d)
instance (l : List FR) : OffF nowhere l := ⟨fun _ _ _ _ _ h => h⟩
instance OffF.born (w : World) (z : Nat) (l : List FR) [b : Born w z] [h : HFs w l] : OffF (only z) l := ⟨fun f hf => by
  have a1 : OffR (only z) f.A (bs f.d) := @OffR.born w z _ _ b ⟨(h.out f hf).1⟩
  exact a1.out⟩
instance HFs.step (S : Nat → Prop) (w w' : World) (l : List FR) [s : Step S w w'] [h : HFs w l] [o : OffF S l] : HFs w' l := ⟨fun f hf => by
  obtain ⟨h1, h2, h3⟩ := h.out f hf
  exact ⟨h1.chg s.chg (o.out f hf), h2, h3⟩⟩
theorem FOk.nil (w : World) : FOk w [] := fun _ h => by cases h
theorem HFs.snoc {w : World} {l : List FR} {f : FR} [h : HFs w l] (hf : Rd w f.A (bs f.d)) (h1 : f.d.length = f.n) (h2 : f.n ≤ f.c) : HFs w (l ++ [f]) := ⟨fun x hx => by
  rcases List.mem_append.1 hx with hx | hx
  · exact h.out x hx
  · rw [List.mem_singleton.1 hx]; exact ⟨hf, h1, h2⟩⟩
theorem OffF.snoc {S : Nat → Prop} {l : List FR} {f : FR} [h : OffF S l] (hf : Apart S f.A (bs f.d)) : OffF S (l ++ [f]) := ⟨fun x hx => by
  rcases List.mem_append.1 hx with hx | hx
  · exact h.out x hx
  · rw [List.mem_singleton.1 hx]; exact hf⟩
/-- a row that has grown lies where it lay, or anew -/
theorem OffF.grew {w : World} {A A' : Option Addr} {l : List FR} (g : Grew w A A') [h : HFs w l] [o : OffF (rowOf A) l] : OffF (rowOf A') l := ⟨fun f hf hne ad e ⟨ad', e', hk⟩ => by
  rcases g.out with k | k
  · exact o.out f hf hne ad e ⟨ad', k.symm.trans e', hk⟩
  · rw [k] at e'
    injection e' with e'
    subst e'
    have := rd_lt (h.out f hf).1 hne e
    have h2 : w.heap.size = ad.block := hk
    omega⟩
theorem HR.frame {w : World} {l : List FR} [h : HFs w l] {k : Nat} (hk : k < l.length) : HR w (gt l k).A (bs (gt l k).d) := ⟨(h.out _ (gt_mem l k hk)).1⟩
theorem HFs.len {w : World} {l : List FR} (h : HFs w l) {k : Nat} (hk : k < l.length) : (gt l k).d.length = (gt l k).n := (h.out _ (gt_mem l k hk)).2.1
theorem HFs.cap {w : World} {l : List FR} (h : HFs w l) {k : Nat} (hk : k < l.length) : (gt l k).n ≤ (gt l k).c := (h.out _ (gt_mem l k hk)).2.2
instance OffA.growZ (w : World) (A A' : Option Addr) (z : Nat) (t : TypeId) (cs : Array Value) [k : Grew w A A'] [h : HB w z t cs] [o : OffA (only z) A] : OffA (only z) A' := ⟨fun ad e hk => by
  rcases k.out with k | k
  · exact o.out ad (k.symm.trans e) hk
  · rw [k] at e
    injection e with e
    subst e
    have h1 := h.out.lt
    have h2 : w.heap.size = z := hk
    omega⟩
instance Into.rowOnly (w0 : World) (g k : Nat) : Into w0 (rowOf (some ⟨g, k, none⟩)) (only g) := ⟨fun x _ ⟨ad, e, hk⟩ => by
  injection e with e
  subst e
  exact hk.symm⟩
theorem NewA.szLe {w0 w : World} {A : Option Addr} (h : A = some ⟨w.heap.size, 0, none⟩) [n : SzLe w0 w] : NewA w0 A := ⟨fun ad e => by
  rw [h] at e
  injection e with e
  subst e
  exact n.out⟩
theorem HR.blkL {w : World} {z : Nat} {t : TypeId} {l : List Value} (h : HB w z t l.toArray) : HR w (some ⟨z, 0, none⟩) l := ⟨fun k u hk => ⟨_, rfl, by rw [add_row, h.out.cell]; simpa using hk⟩⟩
/-- one frame behind others -/
theorem wpl_appendF {P : Program} {ops : Array Oper} {rest : List Oper} {a : Act} {w : World} {Q : Exit → Act → World → Prop} {dst : Option Tmp} {ty : TypeId} {pos : String} {after : Array Edge} (f : FR) {s x : Operand} {t e : TypeId} {bytes : Nat} {z : Value} {A : Option Addr} {n c : Nat} (hs : a.eval s = .slice A n c) {z2 c2 : Nat} (hx : a.eval x = .slice (some ⟨z2, 0, none⟩) 1 c2) (E : ElemT P t e 2 bytes z)
    {l : List FR} (ho : HO w e 2 A n c (cellsOf l)) {t2 : TypeId} (hb : HB w z2 t2 #[.int .i64 f.id, .slice f.A f.n f.c]) (hlim : n + 1 ≤ 1000000000) (hby : bytes ≤ 100000)
    (h : ∀ A' c' w', Step (rowOf A) w w' → HO w' e 2 A' (n + 1) c' (cellsOf (l ++ [f])) → Grew w A A' → n + 1 ≤ c' → wpList P ops Q rest (a.put dst (.slice A' (n + 1) c')) w') :
    wpList P ops Q (⟨dst, .call { callee := .builtin .append, args := #[s, x], argTypes := #[t, t] }, ty, pos, after, none⟩ :: rest) a w :=
  wpl_appendR (news := [f]) hs hx E ho (HR.blkL (l := cellsOf [f]) hb) rfl rfl hlim hby (by decide) h
section
variable {P : Program} {ops : Array Oper} {rest : List Oper} {a : Act} {w : World} {Q : Exit → Act → World → Prop} {dst : Option Tmp} {ty : TypeId} {pos : String} {after : Array Edge} {gd : Option (Nat × Bool)}
/-- the address of a byte in a slice -/
theorem ev_indexB {t : TypeId} {x ix : Operand} {A : Option Addr} {n c k : Nat} (hx : a.eval x = .slice A n c) (hi : a.eval ix = .int .i64 (k : Int)) {e : TypeId} {bytes : Nat} {z : Value} (E : ElemT P t e 1 bytes z) {xs : List UInt8} (hr : HR w A (bs xs)) (hl : xs.length = n) (h1 : k < n) :
    (execOp a.eval ⟨dst, .indexAddr t x ix, ty, pos, after, gd⟩).run P w = .ok (.value (ptrOf A k)) w := by
  obtain ⟨ad, hA, _⟩ := hr.out.lt (by rw [bs_length, hl]; omega)
  obtain ⟨ti, hti, hz, hsz, hb⟩ := info_parts E.out.info
  show ((Instr.indexAt t (a.eval x) (a.eval ix)) >>= fun v => pure (Next.value v)).run P w = _
  rw [hx, hi, hA]
  simp [Instr.indexAt, asIntOf, run_underlying E.out.under, sizeOf, typeInfo, hti, hsz, h1, ptrOf, shift]
theorem ev_indexB0 {t : TypeId} {x : Operand} {A : Option Addr} {n c : Nat} (hx : a.eval x = .slice A n c) {e : TypeId} {bytes : Nat} {z : Value} (E : ElemT P t e 1 bytes z) {xs : List UInt8} (hr : HR w A (bs xs)) (hl : xs.length = n) (h1 : 0 < n) :
    (execOp a.eval ⟨dst, .indexAddr t x (.const (.int .i64 0)), ty, pos, after, gd⟩).run P w = .ok (.value (ptrOf A 0)) w := ev_indexB (k := 0) hx rfl E hr hl h1
theorem ev_loadB {t : TypeId} {x : Operand} {A : Option Addr} {k : Nat} (hx : a.eval x = ptrOf A k) {xs : List UInt8} (hr : HR w A (bs xs)) (ht : CellT P t) (hk : k < xs.length) :
    (execOp a.eval ⟨dst, .load t x, ty, pos, after, gd⟩).run P w = .ok (.value (.int .u8 ((bget xs k).toNat : Int))) w := by
  obtain ⟨ad, b, hA, hb, hc⟩ := hr.out.byte hk
  have e : bget xs k = b := by simp [bget, List.getD_eq_getElem?_getD, hb]
  show ((Instr.loadAt t (a.eval x)) >>= fun v => pure (Next.value v)).run P w = _
  rw [hx, hA, e]
  simp [ptrOf, shift, Instr.loadAt, Instr.sureAddr, loadVar, ht.agg w, hc]
theorem ev_sl_l1 {t e : TypeId} {size bytes : Nat} {z : Value} {x : Operand} {A : Option Addr} {n c : Nat} (hx : a.eval x = .slice A n c) (E : ElemT P t e size bytes z) (h1 : 1 ≤ n) :
    (execOp a.eval ⟨dst, .slice t x (some (.const (.int .i64 1))) none none, ty, pos, after, gd⟩).run P w = .ok (.value (.slice (cutA A 1 c size) (n - 1) (c - 1))) w := ev_sl_l (k := 1) hx rfl E h1
theorem wpl_indexB {t : TypeId} {x ix : Operand} {A : Option Addr} {n c k : Nat} (hx : a.eval x = .slice A n c) (hi : a.eval ix = .int .i64 (k : Int)) {e : TypeId} {bytes : Nat} {z : Value} (E : ElemT P t e 1 bytes z) {xs : List UInt8} (hr : HR w A (bs xs)) (hl : xs.length = n) (h1 : k < n)
    (h : wpList P ops Q rest (a.put dst (ptrOf A k)) w) : wpList P ops Q (⟨dst, .indexAddr t x ix, ty, pos, after, none⟩ :: rest) a w := wpl_of_run rfl (ev_indexB hx hi E hr hl h1) h
theorem wpl_indexB0 {t : TypeId} {x : Operand} {A : Option Addr} {n c : Nat} (hx : a.eval x = .slice A n c) {e : TypeId} {bytes : Nat} {z : Value} (E : ElemT P t e 1 bytes z) {xs : List UInt8} (hr : HR w A (bs xs)) (hl : xs.length = n) (h1 : 0 < n)
    (h : wpList P ops Q rest (a.put dst (ptrOf A 0)) w) : wpList P ops Q (⟨dst, .indexAddr t x (.const (.int .i64 0)), ty, pos, after, none⟩ :: rest) a w := wpl_of_run rfl (ev_indexB0 hx E hr hl h1) h
theorem wpl_loadB {t : TypeId} {x : Operand} {A : Option Addr} {k : Nat} (hx : a.eval x = ptrOf A k) {xs : List UInt8} (hr : HR w A (bs xs)) (ht : CellT P t) (hk : k < xs.length)
    (h : wpList P ops Q rest (a.put dst (.int .u8 ((bget xs k).toNat : Int))) w) : wpList P ops Q (⟨dst, .load t x, ty, pos, after, none⟩ :: rest) a w := wpl_of_run rfl (ev_loadB hx hr ht hk) h
end
theorem beqF {a b : Int} (h : ¬ a = b) : (a == b) = false := by simpa using h
theorem beqT {a b : Int} (h : a = b) : (a == b) = true := by simpa using h
theorem bneT {a b : Int} (h : ¬ a = b) : (a != b) = true := by simpa using h
theorem bneF {a b : Int} (h : a = b) : (a != b) = false := by simpa using h
theorem or_u8_nat (a b : Nat) (ha : a < 256) (hb : b < 256) : bits .or .u8 (a : Int) (b : Int) = ((a ||| b : Nat) : Int) := by
  have hx : a ||| b < 2 ^ 8 := Nat.or_lt_two_pow (by omega) (by omega)
  have h1 : (BitVec.ofInt 8 (a : Int)).toNat = a := by
    rw [BitVec.ofInt_natCast, BitVec.toNat_ofNat]; exact Nat.mod_eq_of_lt (by omega)
  have h2 : (BitVec.ofInt 8 (b : Int)).toNat = b := by
    rw [BitVec.ofInt_natCast, BitVec.toNat_ofNat]; exact Nat.mod_eq_of_lt (by omega)
  show IntKind.u8.wrap ((BitVec.ofInt 8 (a : Int) ||| BitVec.ofInt 8 (b : Int)).toNat : Int) = _
  rw [BitVec.toNat_or, h1, h2, IntKind.wrap_u8]
  omega
theorem or_i64_nat (a b : Nat) (ha : a < 9223372036854775808) (hb : b < 9223372036854775808) : bits .or .i64 (a : Int) (b : Int) = ((a ||| b : Nat) : Int) := by
  have hx : a ||| b < 2 ^ 63 := Nat.or_lt_two_pow (by omega) (by omega)
  have h1 : (BitVec.ofInt 64 (a : Int)).toNat = a := by
    rw [BitVec.ofInt_natCast, BitVec.toNat_ofNat]; exact Nat.mod_eq_of_lt (by omega)
  have h2 : (BitVec.ofInt 64 (b : Int)).toNat = b := by
    rw [BitVec.ofInt_natCast, BitVec.toNat_ofNat]; exact Nat.mod_eq_of_lt (by omega)
  show IntKind.i64.wrap ((BitVec.ofInt 64 (a : Int) ||| BitVec.ofInt 64 (b : Int)).toNat : Int) = _
  rw [BitVec.toNat_or, h1, h2, IntKind.wrap_i64]
  omega
theorem or_add (k a b : Nat) (hb : b < 2 ^ k) : 2 ^ k * a ||| b = 2 ^ k * a + b := (Nat.two_pow_add_eq_or_of_lt hb a).symm
theorem or0 (n : Nat) (h : n < 256) : bits .or .u8 0 (n : Int) = (n : Int) := by
  have := or_u8_nat 0 n (by decide) h
  rw [Nat.zero_or] at this
  exact this
theorem or16 (n : Nat) (h : n < 16) : bits .or .u8 16 (n : Int) = 16 + (n : Int) := by
  have := or_u8_nat 16 n (by decide) (by omega)
  rw [or_add 4 1 n (by omega)] at this
  rw [show (16 : Int) = ((16 : Nat) : Int) from rfl, this]
  omega
theorem or32 (n : Nat) (h : n < 16) : bits .or .u8 32 (n : Int) = 32 + (n : Int) := by
  have := or_u8_nat 32 n (by decide) (by omega)
  rw [show (32 : Nat) = 2 ^ 4 * 2 from rfl, or_add 4 2 n (by omega)] at this
  rw [show (32 : Int) = ((2 ^ 4 * 2 : Nat) : Int) from rfl, this]
  omega
theorem or256 (a b : Nat) (ha : a < 256) (hb : b < 256) : bits .or .i64 ((a : Int) * 256) (b : Int) = ((a * 256 + b : Nat) : Int) := by
  have := or_i64_nat (2 ^ 8 * a) b (by omega) (by omega)
  rw [or_add 8 a b (by omega)] at this
  rw [show (a : Int) * 256 = ((2 ^ 8 * a : Nat) : Int) by omega, this]
  omega
theorem OffR.grew {w : World} {A A' B : Option Addr} {vs : List Value} (g : Grew w A A') [h : HR w B vs] [o : OffR (rowOf A) B vs] : OffR (rowOf A') B vs := ⟨fun hne ad e ⟨ad', e', hk⟩ => by
  rcases g.out with k | k
  · exact o.out hne ad e ⟨ad', k.symm.trans e', hk⟩
  · rw [k] at e'
    injection e' with e'
    subst e'
    have := rd_lt h.out hne e
    have h2 : w.heap.size = ad.block := hk
    omega⟩
def lenV : Value → Nat
  | .slice _ n _ => n
  | _ => 0
theorem HO.one {α : Type} [RowC α] {w : World} {z : Nat} {t : TypeId} {a : α} {s : Nat} (h : HB w z t (cellsOf [a]).toArray) (hs : RowC.size α = s) : HO w t s (some ⟨z, 0, none⟩) 1 1 (cellsOf [a]) := ⟨Own.of_blk h.out (Nat.le_refl _) (by decide) (by rw [List.size_toArray, cellsOf_len, hs]; rfl) (by
  have h2 := cellsOf_len [a]
  rw [hs] at h2
  have h3 : 1 * s = (cellsOf [a]).length := by rw [h2]; rfl
  rw [h3]
  exact List.take_length)⟩
theorem HR.cutB {w : World} {A : Option Addr} {xs : List UInt8} (h : HR w A (bs xs)) {n c : Nat} (hl : xs.length = n) (hc : n ≤ c) (k : Nat) : HR w (cutA A k c 1) (bs (xs.drop k)) := ⟨by
  unfold cutA
  split
  · rw [List.drop_eq_nil_of_le (by omega)]
    exact Rd.nil _ _
  · have := h.out.drop k
    rw [Nat.mul_one, show bs (xs.drop k) = (bs xs).drop k from List.map_drop]
    exact this⟩
theorem cutA_if (A : Option Addr) (k c : Nat) (hk : 0 < k) : cutA A k c 1 = if c = k then A else Option.map (fun x => ({ block := x.block, off := x.off + k } : Addr)) A := by
  unfold cutA
  split
  · rfl
  · cases A with
    | none => rfl
    | some a =>
      have : ¬ k = 0 := by omega
      simp [shift, Addr.add, this]
theorem HR.cutI {w : World} {A : Option Addr} {xs : List UInt8} (h : HR w A (bs xs)) {n c : Nat} (hl : xs.length = n) (hc : n ≤ c) (k : Nat) (hk : 0 < k) : HR w (if c = k then A else Option.map (fun x => ({ block := x.block, off := x.off + k } : Addr)) A) (bs (xs.drop k)) := by
  rw [← cutA_if A k c hk]
  exact HR.cutB h hl hc k
theorem apart_cutI {S : Nat → Prop} {A : Option Addr} {xs : List UInt8} (h : Apart S A (bs xs)) (c k : Nat) : Apart S (if c = k then A else Option.map (fun x => ({ block := x.block, off := x.off + k } : Addr)) A) (bs (xs.drop k)) := by
  intro hne ad e
  have hne' : bs xs ≠ [] := by
    rintro h0
    have : xs = [] := by simpa [bs] using h0
    subst this
    simp [bs] at hne
  split at e
  · exact h hne' ad e
  · cases A with
    | none => cases e
    | some a =>
      injection e with e
      subst e
      exact h hne' a rfl
theorem HR.takeB {w : World} {A : Option Addr} {xs : List UInt8} (h : HR w A (bs xs)) (k : Nat) : HR w A (bs (xs.take k)) := ⟨by
  rw [← bs_take]
  exact h.out.take k⟩
theorem run_build_frame (id : Int) (A : Option Addr) (n c : Nat) (w : World) : (Instr.build 45 #[(0, .int .i64 id), (1, .slice A n c)]).run Try.prog w = .ok (.agg #[.int .i64 id, .slice A n c]) w := by kernel_rfl
theorem run_frames1 (id : Int) (A : Option Addr) (n c : Nat) (w : World) : (Instr.buildSlice 41 1 #[(0, .agg #[.int .i64 id, .slice A n c])]).run Try.prog w = .ok (.slice (some ⟨w.heap.size, 0, none⟩) 1 1) (w.alloc (.cells #[.int .i64 id, .slice A n c] 45)) := by kernel_rfl
theorem run_empty (w : World) : (Instr.buildSlice 31 0 #[]).run Try.prog w = .ok (.slice (some ⟨w.heap.size, 0, none⟩) 0 0) (w.alloc (.cells (u8s []) 5)) := by kernel_rfl
theorem u8_1 (n : Int) (h0 : 0 ≤ n) (h1 : n < 256) (w : World) : (Instr.buildSlice 31 1 #[(0, .int .u8 n)]).run Try.prog w = .ok (.slice (some ⟨w.heap.size, 0, none⟩) 1 1) (w.alloc (.cells (u8s [b8 n]) 5)) := by
  rw [b8_in h0 h1, b8_self]; kernel_rfl
theorem u8_2 (n m : Int) (h0 : 0 ≤ n) (h1 : n < 256) (h2 : 0 ≤ m) (h3 : m < 256) (w : World) : (Instr.buildSlice 31 2 #[(0, .int .u8 n), (1, .int .u8 m)]).run Try.prog w = .ok (.slice (some ⟨w.heap.size, 0, none⟩) 2 2) (w.alloc (.cells (u8s [b8 n, b8 m]) 5)) := by
  rw [b8_in h0 h1, b8_in h2 h3, b8_self, b8_self]; kernel_rfl
end Go.Proofs.Ythoipeamdolfgaa
