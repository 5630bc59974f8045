/- OcEl, Fr, DgRS, Ty, TyW, Eq, EqW, MapH, OtW, OtE, OtS, MkR, MkN, Hashes -/
import Derived.Test.YtgjnjhhhbkidbaaGreatUcBase
import Derived.Test.YtgjnjhhhbkidbaaGreatProg
import Derived.Test.YtgjnjhhhbkidbaaGreatUcDgB
import Derived.Stop.BytesEq
import Derived.Maps.OwnSet
import Derived.WideKeyArr
import Derived.StillTailTactics
section
open Go Go.RowKit
namespace Go.Proofs.YtgjnjhhhbkidbaaGreat
theorem elemB : Elem Tryz.prog 29 5 1 1 (.int .u8 0) := ⟨Tryz.underlying29, by kernel_rfl, rfl, by omega⟩
theorem elem_nil (w : World) : Own (w.alloc (.cells #[] 5)) 5 1 (some ⟨w.heap.size, 0, none⟩) 0 0 (bs []) := Own.new w _ 1 0 #[] (by simp [maxLen]) rfl
end Go.Proofs.YtgjnjhhhbkidbaaGreat
end
section
open Go Go.RowKit
namespace Go.Proofs.YtgjnjhhhbkidbaaGreat
/-- a row that the call made since w0 -/
structure Fresh (w0 w : World) (A : Option Addr) (n c : Nat) (xs : List UInt8) : Prop where
 own : Own w 5 1 A n c (bs xs)
 len : n = xs.length
 chg : Chg nowhere w0 w
 new : ∀ ad, A = some ad → w0.heap.size ≤ ad.block
theorem Fresh.nil (w : World) : Fresh w w none 0 0 [] := ⟨Own.nil _ _ _, rfl, Chg.refl _ _, fun ad e => by cases e⟩
theorem Fresh.push {w0 w wx w2 : World} {A A' : Option Addr} {n c n' c' : Nat} {xs ys : List UInt8} (h : Fresh w0 w A n c xs) (h0 : Chg nowhere w wx) (hc : Chg (fun k => ∃ ad, A = some ad ∧ ad.block = k) wx w2)
    (ho : Own w2 5 1 A' n' c' (bs ys)) (hn : n' = ys.length) (hA : A' = A ∨ ∃ z, A' = some ⟨z, 0, none⟩ ∧ w.heap.size ≤ z) : Fresh w0 w2 A' n' c' ys := by
 refine ⟨ho, hn, (h.chg.step h0 (fun _ h => h.elim)).step hc ?_, ?_⟩
 · rintro x ⟨ad, e, rfl⟩
   exact h.new ad e
 · rintro ad rfl
   rcases hA with e | ⟨z, e, hz⟩
   · exact h.new ad e.symm
   · injection e with e
     subst e
     have := h.chg.size
     show w0.heap.size ≤ z
     omega
theorem Fresh.rd {w0 w : World} {A : Option Addr} {n c : Nat} {xs : List UInt8} (h : Fresh w0 w A n c xs) : Rd w A (bs xs) := h.own.rd
/-- a byte more -/
theorem Fresh.one {w0 w w2 : World} {A A' : Option Addr} {n c c' : Nat} {xs : List UInt8} {b : UInt8} {o : Obj} (h : Fresh w0 w A n c xs) (hc : Chg (fun k => ∃ ad, A = some ad ∧ ad.block = k) (w.alloc o) w2)
    (ho : Own w2 5 1 A' (n + 1) c' (bs xs ++ [.int .u8 (b.toNat : Int)])) (hA : A' = A ∨ A' = some ⟨w.heap.size + 1, 0, none⟩) : Fresh w0 w2 A' (n + 1) c' (xs ++ [b]) := by
 refine h.push (wx := w.alloc o) ((Chg.refl _ _).alloc _) hc (by simpa [bs, u8v] using ho) (by simp [h.len]) (hA.imp id fun e => ⟨_, e, Nat.le_succ _⟩)
/-- many bytes more -/
theorem Fresh.many {w0 w w2 : World} {A A' : Option Addr} {n m c c' : Nat} {xs ys : List UInt8} (h : Fresh w0 w A n c xs) (hm : ys.length = m) (hc : Chg (fun k => ∃ ad, A = some ad ∧ ad.block = k) w w2)
    (ho : Own w2 5 1 A' (n + m) c' (bs xs ++ bs ys)) (hA : A' = A ∨ ∃ z, A' = some ⟨z, 0, none⟩ ∧ w.heap.size ≤ z) : Fresh w0 w2 A' (n + m) c' (xs ++ ys) := by
 refine h.push (wx := w) (Chg.refl _ _) hc (by rw [bs_append] at ho; exact ho) (by simp [h.len, hm]) hA
theorem Fresh.le {w0 w : World} {A : Option Addr} {n c : Nat} {xs : List UInt8} (h : Fresh w0 w A n c xs) : n ≤ c := by
 rcases h.own.form with ⟨_, h1, h2, _⟩ | ⟨_, _, _, _, h1, _⟩ <;> omega
end Go.Proofs.YtgjnjhhhbkidbaaGreat
end
section
open Go Go.RowKit
namespace Go.Proofs.YtgjnjhhhbkidbaaGreat
end Go.Proofs.YtgjnjhhhbkidbaaGreat
end
section
open Go Go.RowKit
namespace Go.Proofs.YtgjnjhhhbkidbaaGreat
instance iTy_1 : ZeroT Tryz.prog 23 (u8s zeroH.l) := ⟨.agg (u8s zeroH.l), fun _ => by kernel_rfl, rfl⟩
instance iTy_2 : ZeroT Tryz.prog 246 (u8s (nots 35)) := ⟨.agg (u8s (nots 35)), fun _ => by kernel_rfl, rfl⟩
instance iTy_3 : RowT Tryz.prog 23 32 := ⟨by kernel_rfl, _, Tryz.underlying23, rfl⟩
instance iTy_4 : RowT Tryz.prog 246 35 := ⟨by kernel_rfl, _, Tryz.underlying246, rfl⟩
instance iTy_5 : CellT Tryz.prog 5 := ⟨fun _ => by kernel_rfl, fun _ => by kernel_rfl⟩
instance iTy_6 : CellT Tryz.prog 3 := ⟨fun _ => by kernel_rfl, fun _ => by kernel_rfl⟩
instance iTy_7 : ElemT Tryz.prog 29 5 1 1 (.int .u8 0) := ⟨elemB⟩
instance iTy_8 : ElemT Tryz.prog 89 23 32 32 (.agg (u8s zeroH.l)) := ⟨⟨Tryz.underlying89, by kernel_rfl, rfl, by decide⟩⟩
@[simp] theorem nots_len_ (n : Nat) : (nots n).length = n := nots_len n
/-- one digest as a slice of its own -/
theorem run_oneH (hh : H32) (w : World) : (Instr.buildSlice 89 1 #[(0, .agg (u8s hh.l))]).run Tryz.prog w = .ok (.slice (some ⟨w.heap.size, 0, none⟩) 1 1) (w.alloc (.cells (u8s hh.l) 23)) := by
 have hs := hh.size
 have hz : ∀ w, (zeroValue 23).run Tryz.prog w = .ok (.agg (u8s (nots 32))) w := fun _ => by kernel_rfl
 have hi : ∀ w, (sizeOf 23).run Tryz.prog w = .ok 32 w := fun _ => by kernel_rfl
 unfold Instr.buildSlice
 simp only [Sem.run_bind, run_underlying Tryz.underlying89, Result.andThen_ok, hi]
 have hf : Instr.fill (fun i => some (i * 32, 32)) ((Array.range (1 * 32)).map ((u8s (nots 32))[· % (u8s (nots 32)).size]!)) [(0, Value.agg (u8s hh.l))] = some (u8s hh.l) := by
  rw [fill_step _ _ 0 (.agg (u8s hh.l)) [] (off := 0) (size := 32) rfl hs (by simp), lay_whole _ _ (by show (u8s hh.l).size = _; rw [hs]; simp)]
  rfl
 simp [hz, Value.cells, hf, newRow]
/-- the digest of bytes -/
def shaH (xs : List UInt8) : H32 := ⟨sha xs, sha_len xs⟩
theorem sum_calls {A : Option Addr} {n c : Nat} {xs : List UInt8} {w : World} [h : HR w A (bs xs)] (hn : xs.length = n) (hc : n ≤ c) (hmax : n ≤ 1000000000) :
    Calls Tryz.prog 31 #[.slice A n c] w fun e w' => e = .returned (.agg (u8s (shaH xs).l)) ∧ Step nowhere w w' :=
 (dSum_calls A n c xs w h.out hn hc hmax).mono fun _ _ ⟨he, hc⟩ => ⟨he, ⟨hc.out⟩⟩
theorem sumW_calls {A : Option Addr} {n c : Nat} {xs : List UInt8} {w : World} [h : HR w A (bs xs)] (hn : xs.length = n) (hc : n ≤ c) (hmax : n ≤ 140737488351232) :
    Calls Tryz.prog 31 #[.slice A n c] w fun e w' => e = .returned (.agg (u8s (shaH xs).l)) ∧ Step nowhere w w' :=
 (dSumW_calls A n c xs w h.out hn hc hmax).mono fun _ _ ⟨he, hc⟩ => ⟨he, ⟨hc.out⟩⟩
end Go.Proofs.YtgjnjhhhbkidbaaGreat
end
section
open Go Go.RowKit
namespace Go.Proofs.YtgjnjhhhbkidbaaGreat
instance iTyW_1 : CellT Tryz.prog 232 := ⟨fun _ => by kernel_rfl, fun _ => by kernel_rfl⟩
instance iTyW_2 : CellT Tryz.prog 223 := ⟨fun _ => by kernel_rfl, fun _ => by kernel_rfl⟩
instance iTyW_3 : CellT Tryz.prog 186 := ⟨fun _ => by kernel_rfl, fun _ => by kernel_rfl⟩
instance iTyW_4 : CellT Tryz.prog 230 := ⟨fun _ => by kernel_rfl, fun _ => by kernel_rfl⟩
instance iTyW_5 : ElemT Tryz.prog 230 186 1 8 .nilFunc := ⟨⟨Tryz.underlying230, by kernel_rfl, rfl, by decide⟩⟩
instance iTyW_6 : CellT Tryz.prog 238 := ⟨fun _ => by kernel_rfl, fun _ => by kernel_rfl⟩
instance iTyW_7 : CellT Tryz.prog 29 := ⟨fun _ => by kernel_rfl, fun _ => by kernel_rfl⟩
instance iTyW_8 : CellT Tryz.prog 3 := ⟨fun _ => by kernel_rfl, fun _ => by kernel_rfl⟩
instance iTyW_9 : RowT Tryz.prog 23 32 := ⟨by kernel_rfl, _, Tryz.underlying23, rfl⟩
instance iTyW_10 : RowT Tryz.prog 54 35 := ⟨by kernel_rfl, _, Tryz.underlying54, rfl⟩
instance iTyW_11 : ZeroT Tryz.prog 184 #[.slice none 0 0] := ⟨.agg #[.slice none 0 0], fun _ => by kernel_rfl, rfl⟩
instance iTyW_12 : CellT Tryz.prog 5 := ⟨fun _ => by kernel_rfl, fun _ => by kernel_rfl⟩
instance iTyW_13 : CellT Tryz.prog 4 := ⟨fun _ => by kernel_rfl, fun _ => by kernel_rfl⟩
instance iTyW_14 : CellT Tryz.prog 9 := ⟨fun _ => by kernel_rfl, fun _ => by kernel_rfl⟩
instance iTyW_15 : ElemT Tryz.prog 29 5 1 1 (.int .u8 0) := ⟨⟨Tryz.underlying29, by kernel_rfl, rfl, by decide⟩⟩
end Go.Proofs.YtgjnjhhhbkidbaaGreat
end
section
open Go Go.RowKit
namespace Go.Proofs.YtgjnjhhhbkidbaaGreat
instance iEq_1 : DecidableEq H32 := fun a b => decidable_of_iff (a.l = b.l) ⟨H32.ext', congrArg _⟩
theorem beq_hash (a b : H32) : (a.l == b.l) = decide (a = b) := by
 rw [Bool.eq_iff_iff]
 simp only [beq_iff_eq, decide_eq_true_eq]
 exact ⟨H32.ext', fun h => by rw [h]⟩
theorem eqlH (a b : H32) (w : World) : (binOp .eql 23 (.agg (u8s a.l)) (.agg (u8s b.l))).run Tryz.prog w = .ok (.bool (decide (a = b))) w := by
 rw [← beq_hash]
 exact run_eql_bytes (P := Tryz.prog) w 23 5 32 Tryz.underlying23 Tryz.underlying5 Tryz.sizeOf5 a.l b.l a.len b.len
end Go.Proofs.YtgjnjhhhbkidbaaGreat
end
section
open Go Go.RowKit
namespace Go.Proofs.YtgjnjhhhbkidbaaGreat
instance cellEqWR : CellT Tryz.prog 89 := ⟨fun _ => by kernel_rfl, fun _ => by kernel_rfl⟩
end Go.Proofs.YtgjnjhhhbkidbaaGreat
end
section
open Go Go.RowKit Go.Maps Go.MapKept Go.ChangeMaps Go.WideShapes Go.WideMaps
namespace Go.Proofs.YtgjnjhhhbkidbaaGreat
/-- an element stands as it is -/
def heldE : Value → Option (DataW Value × List MemPlace) := fun v => some (.held v, [])
theorem ownsMap_tight {P : Program} {kt : TypeId} {H : Type} {R : Value → Option (DataW H × List MemPlace)} {w : World} {b n : Nat} {D : DataW H} (h : w.ownsMap P kt R b n D) : w.ownsMap P kt R b (Maps.size D) D := by
 obtain ⟨es, clock, hb, F, hs, rfl⟩ := h
 exact ⟨es, clock, hb, F, by simp [Maps.size, length_sorted], rfl⟩
theorem ownsMap_chgI {H : Type} {P : Program} {k : TypeId} {R : Value → Option (DataW H × List MemPlace)} {w w' : World} {S : Nat → Prop} {b n : Nat} {D : DataW H} (h : w.ownsMap P k R b n D) (hc : Chg S w w') (hS : ¬ S b) : w'.ownsMap P k R b n D := by
 have hlt := h.lt
 obtain ⟨es, clock, hb, r⟩ := h
 exact ⟨es, clock, (hc.block b hlt hS).trans hb, r⟩
theorem turned_chgI {w w' : World} {b : Nat} (h : w.mapTurned w' b) : Chg (only b) w w' := by
 obtain ⟨es, clock, es', clock', hb, rfl⟩ := h
 refine ⟨rfl, rfl, rfl, by simp [setBlock], fun x hx hn => heap_setBlock_other hb _ (fun e => hn e)⟩
theorem mapM_all {α β : Type} {f : α → Option β} {g : α → β} : ∀ (l : List α), (∀ x ∈ l, f x = some (g x)) → l.mapM f = some (l.map g)
 | [], _ => rfl
 | x :: l, h => by
  rw [List.mapM_cons, h x (by simp), mapM_all l (fun y hy => h y (by simp [hy]))]
  rfl
/-- the type of the keys is a digest's -/
class HashKey (P : Program) (kt : TypeId) (e : outParam TypeId) : Prop where
 arr : ArrKey P kt e 32
 elem : P.underlying e = some (.int .u8)
 size : ∃ m, P.types.size = m + 1
section
variable {P : Program} {kt e : TypeId}
theorem HashKey.at (K : HashKey P kt e) (h : H32) : ∃ s, keyOf P kt (.agg (u8s h.l)) = some (.string s) := by
 obtain ⟨m0, hm0⟩ := K.size
 have hkt := K.arr.keyType K.size
 have hsz : (u8s h.l).size = 32 := H32.size h
 unfold keyOf
 simp only [K.arr.hu]
 rw [if_pos (by simp [hkt, Value.formed, K.arr.hu, K.arr.size, hsz]), hm0]
 unfold Program.keyLits
 simp only [K.arr.hu, Value.cells]
 rw [if_pos (by rw [K.arr.size]; simpa using hsz)]
 rw [mapM_all (g := fun i => [Lit.int .u8 ((bget h.l i).toNat : Int)])]
 · exact ⟨_, rfl⟩
 · intro i hi
   have hi' : i < 32 := by simpa using hi
   have hd : ((u8s h.l).toList.drop (i * P.cellsOf e)).take (P.cellsOf e) = [.int .u8 ((bget h.l i).toNat : Int)] := by
    have hl : i < h.l.length := by rw [h.len]; exact hi'
    rw [K.arr.one, Nat.mul_one, List.take_one]
    have h1 : (u8s h.l).toList[i]? = some (.int .u8 ((bget h.l i).toNat : Int)) := by
     simp [u8s, bs, u8v, bget, List.getD_eq_getElem?_getD, List.getElem?_eq_getElem hl]
    rw [List.head?_drop, h1]
    rfl
   rw [hd]
   unfold Program.keyLits
   simp only [K.elem]
   have h8 := (bget h.l i).toNat_lt
   simp [Lit.wf, IntKind.min, IntKind.max, IntKind.signed, IntKind.bits]
   omega
/-- a digest as a key -/
def hkeyL (P : Program) (kt : TypeId) (h : H32) : Lit := (keyOf P kt (.agg (u8s h.l))).getD (.bool false)
theorem HashKey.key (K : HashKey P kt e) (h : H32) : keyOf P kt (.agg (u8s h.l)) = some (hkeyL P kt h) := by
 obtain ⟨s, hs⟩ := K.at h
 rw [hkeyL, hs]
 rfl
theorem HashKey.inj (K : HashKey P kt e) {a b : H32} (h : hkeyL P kt a = hkeyL P kt b) : a = b := by
 have h1 := K.arr.law.inj (K.key a) (by rw [h]; exact K.key b)
 have h2 : u8s a.l = u8s b.l := by injection h1
 have h3 : bs a.l = bs b.l := by
  have := congrArg Array.toList h2
  simpa [u8s, bs] using this
 exact H32.ext' (bs_inj h3)
theorem HashKey.isKey (K : HashKey P kt e) (h : H32) : WideAt.IsKeyLit (hkeyL P kt h) := by
 obtain ⟨s, hs⟩ := K.at h
 rw [hkeyL, hs]
 trivial
/-- block g is a set of m digests: those of which f says so -/
def MapH (P : Program) (kt : TypeId) (w : World) (g m : Nat) (f : H32 → Bool) : Prop :=
 ∃ D : DataW Value, w.ownsMap P kt heldE g m D ∧ Maps.size D = m ∧ ∀ h : H32, Maps.has D (hkeyL P kt h) = f h ∧ D.atKey (hkeyL P kt h) (.held (.agg #[])) = .held (.agg #[])
variable {et mt : TypeId} {w w' : World} {g m : Nat} {S : Nat → Prop} {f : H32 → Bool}
theorem MapH.lt (h : MapH P kt w g m f) : g < w.heap.size := by
 obtain ⟨D, h1, _⟩ := h
 exact h1.lt
theorem MapH.chg (h : MapH P kt w g m f) (hc : Chg S w w') (hS : ¬ S g) : MapH P kt w' g m f := by
 obtain ⟨D, h1, h2⟩ := h
 exact ⟨D, ownsMap_chgI h1 hc hS, h2⟩
theorem MapH.made (w : World) : MapH P kt (w.alloc (.map #[] 0)) w.heap.size 0 (fun _ => false) :=
 ⟨_, World.ownsMap_made w P kt _, rfl, fun _ => ⟨rfl, rfl⟩⟩
theorem MapH.put (h : MapH P kt w g m f) (K : HashKey P kt e) (ht : P.underlying mt = some (.map kt et)) (hn : m < maxLen) (x : H32) :
    ∃ w', (Instr.mapUpdate mt (.map (some g)) (.agg (u8s x.l)) (.agg #[])).run P w = .ok () w' ∧ MapH P kt w' g (if f x then m else m + 1) (fun y => decide (y = x) || f y) ∧ Chg (only g) w w' := by
 obtain ⟨D, h1, h3, h2⟩ := h
 obtain ⟨w', hrun, ho, htn⟩ := h1.store (Keyed.of_law K.arr.law) ht hn (K.key x) (val := .agg #[]) (d := .held (.agg #[])) (ps := []) rfl
 have hsz : Maps.size (D.put (hkeyL P kt x) (.held (.agg #[]))) = if f x then m else m + 1 := by
  rw [Maps.size_put (h1.tidy (Keyed.of_law K.arr.law)), (h2 x).1, h3]
 refine ⟨w', hrun, ⟨_, hsz ▸ ownsMap_tight ho, hsz, fun y => ?_⟩, turned_chgI htn⟩
 by_cases hy : y = x
 · subst hy
   exact ⟨by rw [Maps.has_put_same h1.isMap (K.isKey y)]; simp, Maps.atKey_put_same h1.isMap (K.isKey y) _ _⟩
 · have hne : hkeyL P kt y ≠ hkeyL P kt x := fun e => hy (K.inj e)
   exact ⟨by rw [Maps.has_put_other hne, (h2 y).1]; simp [hy], by rw [Maps.atKey_put_other hne]; exact (h2 y).2⟩
end
/-- the set, as a fact of memory -/
class HMH (P : Program) (kt : outParam TypeId) (w : World) (g : Nat) (m : outParam Nat) (f : outParam (H32 → Bool)) : Prop where
 out : MapH P kt w g m f
/-- what the table says of a set's types -/
class MapHT (P : Program) (mt : TypeId) (kt : outParam TypeId) : Prop where
 key : ∃ e, HashKey P kt e
 under : ∃ et, P.underlying mt = some (.map kt et) ∧ ∀ w, (zeroValue et).run P w = .ok (.agg #[]) w
section
variable {P : Program} {kt mt : TypeId}
instance HMH.step (S : Nat → Prop) (w w' : World) (g m : Nat) (f : H32 → Bool) [s : Step S w w'] [h : HMH P kt w g m f] [o : OffB S g] : HMH P kt w' g m f := ⟨h.out.chg s.chg o.out⟩
variable {ops : Array Oper} {rest : List Oper} {a : Act} {w : World} {Q : Exit → Act → World → Prop} {dst : Option Tmp} {ty : TypeId} {pos : String} {after : Array Edge}
end
end Go.Proofs.YtgjnjhhhbkidbaaGreat
end
section
open Go Go.RowKit
namespace Go.Proofs.YtgjnjhhhbkidbaaGreat
/-- one step of a chain -/
def walkRow (chain : Int) (i : Nat) (h : H32) : List UInt8 := 1 :: b8 chain :: b8 i :: h.l
theorem walkRow_len (chain : Int) (i : Nat) (h : H32) : (walkRow chain i h).length = 35 := by simp [walkRow, h.len]
def stepH (chain : Int) (i : Nat) (h : H32) : H32 := shaH (walkRow chain i h)
/-- n steps from one on -/
def walkN (chain : Int) : Nat → Nat → H32 → H32
 | _, 0, h => h
 | i, n + 1, h => walkN chain (i + 1) n (stepH chain i h)
def walkS (chain f t : Int) (h : H32) : H32 := walkN chain (max f 0).toNat (min t 3 - max f 0).toNat h
theorem walkN_snoc (chain : Int) : ∀ (i n : Nat) (h : H32), walkN chain i (n + 1) h = stepH chain (i + n) (walkN chain i n h)
 | i, 0, h => rfl
 | i, n + 1, h => by
  have e := walkN_snoc chain (i + 1) n (stepH chain i h)
  have e2 : i + 1 + n = i + (n + 1) := by omega
  rw [e2] at e
  exact e
set_option maxRecDepth 100000 in
set_option maxHeartbeats 800000 in
theorem walk_calls (h : H32) (chain f t : Int) (w : World) :
    Calls Tryz.prog 156 #[.agg (u8s h.l), .int .i64 chain, .int .i64 f, .int .i64 t] w fun e w' => e = .returned (.agg (u8s (walkS chain f t h).l)) ∧ Step nowhere w w' := by
 have kb : ∀ w, (Instr.build 246 #[(0, .int .u8 1), (1, .int .u8 (chain % 256))]).run Tryz.prog w = .ok (.agg (u8s (1 :: b8 chain :: nots 33))) w := fun _ => by rw [mod_b8]; kernel_rfl
 obtain ⟨s, hs⟩ : ∃ s : Nat, (s : Int) = max f 0 := ⟨(max f 0).toNat, by omega⟩
 have hs' : max f 0 = (s : Int) := hs.symm
 obtain ⟨n, hn⟩ : ∃ n : Nat, n = (min t 3 - max f 0).toNat := ⟨_, rfl⟩
 have HN := Lib.hid hn
 have HS : Hid ((max f 0).toNat = s) := Lib.hid (by omega)
 have hn1 : (s : Int) + n ≤ 3 ∨ n = 0 := by omega
 have hn2 : ∀ k : Nat, k < n → (s : Int) + k < min t 3 := fun k hk => by omega
 have HE : Hid (∀ k : Nat, k ≤ n → ¬ k < n → ¬ (s : Int) + k < min t 3) := Lib.hid (fun k h1 h2 => by omega)
 have HL := Lib.hid hn2
 clear hn hs hn2
 go_enter Tryz.func156, Tryz.ntmps156
 go_wp2_with (first | ((with_reducible apply wpl_build); exact kb _) | ((with_reducible apply (wpl_box_agg (dst := some 4))); exact rfl; intro zh wzh _ _ _) | ((with_reducible apply (wpl_alloc (dst := some 8))); intro zo wzo _ _ _) | ((with_reducible apply (wpl_alloc (dst := some 9))); intro zr wzr _ _ _) | ((with_reducible apply wpl_storerow); exact rfl; exact rfl; infer_instance; infer_instance; (first | (with_reducible assumption) | (with_reducible exact H32.size _) | kernel_rfl); (first | (with_reducible assumption) | (with_reducible exact H32.size _) | kernel_rfl); (first | (with_reducible exact u8s_one _) | (with_reducible assumption) | kernel_rfl); intro ws _ _) | ((with_reducible apply wpl_max); exact rfl; exact rfl))
 go_loopw [10] (fun i wr => ∃ k : Nat, k ≤ n ∧ i = .int .i64 ((s : Int) + k) ∧ Step nowhere w wr ∧ HB wr zo 23 (u8s zeroH.l) ∧ HB wr zh 23 (u8s (walkN chain s k h).l) ∧ ∃ b ys, ys.length = 32 ∧ HB wr zr 246 (u8s (1 :: b8 chain :: b :: ys))) (fun i _ => (s + n) - (intOf i).toNat)
 case atStart => exact ⟨0, Nat.zero_le _, by rw [Int.natCast_zero, Int.add_zero], stepN, inferInstance, inferInstance, 0, nots 32, rfl, inferInstance⟩
 case round =>
  obtain ⟨k, hk, rfl, _, _, _, b, ys, hys, _⟩ := hrel
  have hlen : (1 :: b8 chain :: b :: ys).length = 35 := by simp [hys]
  by_cases hlt : k < n
  · have hlt3 := HL.out k hlt
    go_wp2_with (first | ((with_reducible apply (wpl_storebyte (t := 5))); exact rfl; exact rfl; infer_instance; (first | (with_reducible assumption) | omega | (focus (simp; done)) | (focus (simp; omega; done)) | decide); (constructor <;> omega); intro ws _ _) | ((with_reducible apply wpl_min); exact rfl; exact rfl))
    go_still_tail 2, (by kernel_rfl)
    change wpList _ _ _ _ _ (World.drew _)
    go_wp2_with (first | ((with_reducible apply wpl_copy); exact Tryz.underlying29; (kernel_rfl); exact rfl; exact rfl; infer_instance; infer_instance; (first | (with_reducible assumption) | (with_reducible exact H32.len _) | (focus (simp; done))); (first | (with_reducible assumption) | omega); (first | (with_reducible assumption) | omega | (focus (simp; done)) | (focus (simp; omega; done)) | decide); intro wc _ _))
    have hB := HB.eq (ys := walkRow chain (s + k) (walkN chain s k h)) (inferInstance : HB wc zr 246 _) (by simp [walkRow, hys])
    refine (sum_calls (xs := walkRow chain (s + k) (walkN chain s k h)) (walkRow_len _ _ _) (Nat.le_refl _) (by decide)).mono ?_
    rintro e w5 ⟨rfl, _⟩
    go_wp2_with (first | ((with_reducible apply wpl_storerow); exact rfl; exact rfl; infer_instance; infer_instance; (first | (with_reducible assumption) | (with_reducible exact H32.size _) | kernel_rfl); (first | (with_reducible assumption) | (with_reducible exact H32.size _) | kernel_rfl); (first | (with_reducible exact u8s_one _) | (with_reducible assumption) | kernel_rfl); intro ws _ _))
    refine ⟨⟨k + 1, by omega, ?_, stepN, inferInstance, ?_, b8 (s + k), (walkN chain s k h).l, H32.len _, ?_⟩, ?_⟩
    · go_num
    · rw [walkN_snoc]; exact inferInstance
    · show HB _ zr _ (u8s (walkRow chain (s + k) (walkN chain s k h)))
      exact inferInstance
    · simp [intOf]; omega
  · have hge := HE.out k hk hlt
    have hge' : ¬ (s : Int) + k < min t 3 := by omega
    obtain rfl : k = n := by omega
    go_wp2_with (first | ((with_reducible apply wpl_loadrow); exact rfl; infer_instance; infer_instance; (first | (with_reducible assumption) | (with_reducible exact H32.size _) | kernel_rfl)) | ((with_reducible apply wpl_storerow); exact rfl; exact rfl; infer_instance; infer_instance; (first | (with_reducible assumption) | (with_reducible exact H32.size _) | kernel_rfl); (first | (with_reducible assumption) | (with_reducible exact H32.size _) | kernel_rfl); (first | (with_reducible exact u8s_one _) | (with_reducible assumption) | kernel_rfl); intro ws _ _) | ((with_reducible apply wpl_min); exact rfl; exact rfl))
    refine ret_row rfl rfl (n := 32) (H32.size _) rfl ⟨?_, stepN⟩
    rw [walkS, HS.out, HN.out]
end Go.Proofs.YtgjnjhhhbkidbaaGreat
end
section
open Go Go.RowKit
namespace Go.Proofs.YtgjnjhhhbkidbaaGreat
def joinH (l : List H32) : List UInt8 := l.flatMap (·.l)
theorem joinH_len (l : List H32) : (joinH l).length = l.length * 32 := by
 induction l with
 | nil => rfl
 | cons a l ih => simp only [joinH, List.flatMap_cons, List.length_append, a.len] at *; rw [ih, List.length_cons]; omega
theorem joinH_snoc (l : List H32) (x : H32) : joinH (l ++ [x]) = joinH l ++ x.l := by simp [joinH]
theorem take_hget (l : List H32) (k : Nat) (h : k < l.length) : l.take (k + 1) = l.take k ++ [hget l k] := by
 rw [List.take_add_one, hget, List.getD_eq_getElem?_getD, List.getElem?_eq_getElem h]
 rfl
def closedS (l : List H32) : H32 := shaH (2 :: joinH l)
set_option maxRecDepth 100000 in
set_option maxHeartbeats 800000 in
theorem closed_calls {A : Option Addr} {n c : Nat} {l : List H32} {w : World} [HR w A (cellsOf l)] (hl : l.length = n) (hn : n ≤ 1000000) :
    Calls Tryz.prog 152 #[.slice A n c] w fun e w' => e = .returned (.agg (u8s (closedS l).l)) ∧ Step nowhere w w' := by
 have kb : ∀ w, (Instr.buildSlice 29 1 #[(0, .int .u8 2)]).run Tryz.prog w = .ok (.slice (some ⟨w.heap.size, 0, none⟩) 1 1) (w.alloc (.cells (u8s [2]) 5)) := fun _ => by kernel_rfl
 have hm1 : Fact' ([(2 : UInt8)].length ≤ maxLen) := ⟨by decide⟩
 have HL := Lib.hid hl
 clear hl
 go_enter Tryz.func152, Tryz.ntmps152
 go_wp2_with (first | ((with_reducible apply wpl_bslice); exact kb _; intro zb wb _ _ _) | ((with_reducible apply (wpl_alloc (dst := some 2))); intro zo wzo _ _ _))
 go_loopw [3, 9] (fun v i wr => ∃ (k : Nat) (A' : Option Addr) (c' : Nat), k ≤ n ∧ i = .int .i64 (k : Int) ∧ v = .slice A' (1 + 32 * k) c' ∧ 1 + 32 * k ≤ c' ∧ Step nowhere w wr ∧ HB wr zo 23 (u8s zeroH.l) ∧ NewA w A' ∧ OffB (rowOf A') zo ∧ HO wr 5 1 A' (1 + 32 * k) c' (bs (2 :: joinH (l.take k)))) (fun _ i _ => n - (intOf i).toNat)
 case atStart =>
  refine ⟨0, some ⟨zb, 0, none⟩, 1, Nat.zero_le _, rfl, rfl, Nat.le_refl _, stepN, inferInstance, NewA.mono (w := _) (NewA.of_born 0), inferInstance, ?_⟩
  show HO _ _ 1 _ [(2 : UInt8)].length [(2 : UInt8)].length (bs [2])
  exact inferInstance
 case round =>
  obtain ⟨k, A', c', hk, rfl, rfl, hcap0, _, _, _, _, _⟩ := hrel
  by_cases hlt : k < n
  · have hkl : k < l.length := by have := HL.out; omega
    have hln := HL.out
    have hsn : Hid (2 :: joinH (l.take (k + 1)) = 2 :: joinH (l.take k) ++ (hget l k).l) := Lib.hid (by rw [take_hget l k hkl, joinH_snoc]; rfl)
    go_wp2_with (first | ((with_reducible apply (wpl_alloc (dst := some 5))); intro zh wzh _ _ _) | ((with_reducible apply wpl_storerow); exact rfl; exact rfl; infer_instance; infer_instance; (first | (with_reducible assumption) | (with_reducible exact H32.size _) | kernel_rfl); (first | (with_reducible assumption) | (with_reducible exact H32.size _) | kernel_rfl); (first | (with_reducible exact u8s_one _) | (with_reducible assumption) | kernel_rfl); intro ws _ _) | ((with_reducible apply wpl_indexH); exact rfl; exact rfl; infer_instance; infer_instance; (first | (with_reducible assumption) | omega); (first | (with_reducible assumption) | omega); (first | (with_reducible assumption) | omega)) | ((with_reducible apply (wpl_loadhash (t := 23))); exact rfl; infer_instance; infer_instance; (first | (with_reducible assumption) | omega)) | ((with_reducible apply wpl_appendB); exact rfl; exact rfl; infer_instance; (first | exact inferInstance | exact ⟨Own.nil _ _ _⟩); infer_instance; (first | (with_reducible assumption) | (with_reducible exact H32.len _) | (focus (simp; done)) | omega); (first | (with_reducible assumption) | omega); intro A' c' wa _ _ _ hcap))
    refine ⟨⟨k + 1, _, _, by omega, ?_, rfl, hcap, stepN, inferInstance, inferInstance, inferInstance, ?_⟩, ?_⟩
    · go_num
    · rw [hsn.out]; exact inferInstance
    · simp [intOf]; omega
  · obtain rfl : k = n := by omega
    have hll := HL.out
    have hLT : Hid (l.take l.length = l) := Lib.hid (List.take_length)
    go_wp2_with fail
    refine (sum_calls (xs := 2 :: joinH (l.take k)) (by rw [List.length_cons, joinH_len, List.length_take]; omega) (by omega) (by omega)).mono ?_
    rintro e w5 ⟨rfl, _⟩
    go_wp2_with (first | ((with_reducible apply wpl_storerow); exact rfl; exact rfl; infer_instance; infer_instance; (first | (with_reducible assumption) | (with_reducible exact H32.size _) | kernel_rfl); (first | (with_reducible assumption) | (with_reducible exact H32.size _) | kernel_rfl); (first | (with_reducible exact u8s_one _) | (with_reducible assumption) | kernel_rfl); intro ws _ _))
    refine ret_row rfl rfl (n := 32) (H32.size _) rfl ⟨?_, stepN⟩
    rw [closedS, ← hll, hLT.out]
end Go.Proofs.YtgjnjhhhbkidbaaGreat
end
section
open Go Go.RowKit
namespace Go.Proofs.YtgjnjhhhbkidbaaGreat
def secretRow (seed : H32) (leaf chain : Int) : List UInt8 := 0 :: (seed.l ++ [b8 leaf, b8 chain])
theorem secretRow_len (seed : H32) (leaf chain : Int) : (secretRow seed leaf chain).length = 35 := by simp [secretRow, seed.len]
def secretS (seed : H32) (leaf chain : Int) : H32 := shaH (secretRow seed leaf chain)
set_option maxRecDepth 100000 in
set_option maxHeartbeats 800000 in
theorem secret_calls (seed : H32) (leaf chain : Int) (w : World) :
    Calls Tryz.prog 155 #[.agg (u8s seed.l), .int .i64 leaf, .int .i64 chain] w fun e w' => e = .returned (.agg (u8s (secretS seed leaf chain).l)) ∧ Step nowhere w w' := by
 have kb : ∀ w, (Instr.build 246 #[(0, .int .u8 0)]).run Tryz.prog w = .ok (.agg (u8s (nots 35))) w := fun _ => by kernel_rfl
 have e1 : Hid (((List.take 1 (nots 35) ++ seed.l ++ List.drop (1 + 32) (nots 35)).set 33 (b8 (leaf % 256))).set 34 (b8 (chain % 256)) = secretRow seed leaf chain) := Lib.hid (by
  have e0 : List.take 1 (nots 35) ++ seed.l ++ List.drop (1 + 32) (nots 35) = 0 :: (seed.l ++ [0, 0]) := rfl
  rw [e0, b8_mod, b8_mod, sB, sB, List.set_append_right _ _ (by simp [seed.len]), List.set_append_right _ _ (by simp [seed.len]), seed.len]
  rfl)
 go_enter Tryz.func155, Tryz.ntmps155
 go_wp2_with (first | ((with_reducible apply wpl_build); exact kb _) | ((with_reducible apply (wpl_box_agg (dst := some 3))); exact rfl; intro zs wzs _ _ _) | ((with_reducible apply (wpl_alloc (dst := some 6))); intro zo wzo _ _ _) | ((with_reducible apply (wpl_alloc (dst := some 7))); intro zr wzr _ _ _) | ((with_reducible apply wpl_storerow); exact rfl; exact rfl; infer_instance; infer_instance; (first | (with_reducible assumption) | (with_reducible exact H32.size _) | kernel_rfl); (first | (with_reducible assumption) | (with_reducible exact H32.size _) | kernel_rfl); (first | (with_reducible exact u8s_one _) | (with_reducible assumption) | kernel_rfl); intro ws _ _))
 go_still_tail 2, (by kernel_rfl)
 change wpList _ _ _ _ _ (World.drew _)
 go_wp2_with (first | ((with_reducible apply (wpl_storebyte (t := 5))); exact rfl; exact rfl; infer_instance; (first | (with_reducible assumption) | omega | (focus (simp; done)) | (focus (simp; omega; done)) | decide); (constructor <;> omega); intro ws _ _) | ((with_reducible apply wpl_copy); exact Tryz.underlying29; (kernel_rfl); exact rfl; exact rfl; infer_instance; infer_instance; (first | (with_reducible assumption) | (with_reducible exact H32.len _) | (focus (simp; done))); (first | (with_reducible assumption) | omega); (first | (with_reducible assumption) | omega | (focus (simp; done)) | (focus (simp; omega; done)) | decide); intro wc _ _))
 have hB := HB.eq (inferInstance : HB ws zr 246 _) e1.out
 refine (sum_calls (xs := secretRow seed leaf chain) (secretRow_len _ _ _) (Nat.le_refl _) (by decide)).mono ?_
 rintro e w5 ⟨rfl, _⟩
 go_wp2_with (first | ((with_reducible apply wpl_storerow); exact rfl; exact rfl; infer_instance; infer_instance; (first | (with_reducible assumption) | (with_reducible exact H32.size _) | kernel_rfl); (first | (with_reducible assumption) | (with_reducible exact H32.size _) | kernel_rfl); (first | (with_reducible exact u8s_one _) | (with_reducible assumption) | kernel_rfl); intro ws _ _))
 exact ret_row rfl rfl (n := 32) (H32.size _) rfl ⟨rfl, stepN⟩
/-- a function of a digest and a place -/
def mapH (g : H32 → Nat → H32) (l : List H32) (k : Nat) : List H32 := (List.range k).map fun i => g (hget l i) i
theorem mapH_len (g : H32 → Nat → H32) (l : List H32) (k : Nat) : (mapH g l k).length = k := by simp [mapH]
theorem mapH_snoc (g : H32 → Nat → H32) (l : List H32) (k : Nat) : mapH g l (k + 1) = mapH g l k ++ [g (hget l k) k] := by simp [mapH, List.range_succ]
/-- so many are walked, the others are noughts -/
def doneH (g : H32 → Nat → H32) (l : List H32) (n k : Nat) : List H32 := mapH g l k ++ List.replicate (n - k) zeroH
theorem doneH_len (g : H32 → Nat → H32) (l : List H32) (n k : Nat) (h : k ≤ n) : (doneH g l n k).length = n := by simp [doneH, mapH_len]; omega
theorem doneH_set (g : H32 → Nat → H32) (l : List H32) (n k : Nat) (h : k < n) : (doneH g l n k).set k (g (hget l k) k) = doneH g l n (k + 1) := by
 unfold doneH
 rw [List.set_append_right _ _ (by rw [mapH_len]; exact Nat.le_refl _), mapH_len, Nat.sub_self, mapH_snoc, List.append_assoc]
 congr 1
 have e : n - k = (n - (k + 1)) + 1 := by omega
 rw [e, List.replicate_succ]
 rfl
theorem doneH_all (g : H32 → Nat → H32) (l : List H32) (n : Nat) : doneH g l n n = mapH g l n := by simp [doneH]
set_option maxRecDepth 100000 in
set_option maxHeartbeats 800000 in
theorem each_calls {A : Option Addr} {n c : Nat} {l : List H32} {w : World} [HR w A (cellsOf l)] (hl : l.length = n) (hn : 36 ≤ n) (f : FuncId) (hf : ∀ args w, (callFunc f args).run Tryz.prog w = .ok (.enter f args) w) (first captured : Array Value) (g : H32 → Nat → H32)
    (hcall : ∀ w', Nw w w' → ∀ (h : H32) (i : Nat), i < 36 → Calls Tryz.prog f (first ++ #[.agg (u8s h.l), .int .i64 (i : Int)] ++ captured) w' fun e w'' => e = .returned (.agg (u8s (g h i).l)) ∧ Step nowhere w' w'') :
    Calls Tryz.prog 102 #[.slice A n c, .func (.func f) first captured] w fun e w' => ∃ z, e = .returned (.slice (some ⟨z, 0, none⟩) 36 36) ∧ Step nowhere w w' ∧ NewA w (some ⟨z, 0, none⟩) ∧ HO w' 23 32 (some ⟨z, 0, none⟩) 36 36 (cellsOf (mapH g l 36)) := by
 have HC := Lib.hid hcall
 have HL := Lib.hid hl
 clear hcall hl
 go_enter Tryz.func102, Tryz.ntmps102
 go_wp2_with (first | ((with_reducible apply (wpl_makehash (n := 36))); exact rfl; exact rfl; infer_instance; (decide); intro zm wm _ _ _))
 go_loopw [6, 10] (fun v i wr => ∃ k : Nat, k ≤ 36 ∧ i = .int .i64 (k : Int) ∧ Step nowhere w wr ∧ HO wr 23 32 (some ⟨zm, 0, none⟩) 36 36 (cellsOf (doneH g l 36 k))) (fun _ i _ => 36 - (intOf i).toNat)
 case atStart => exact ⟨0, Nat.zero_le _, rfl, stepN, inferInstance⟩
 case round =>
  obtain ⟨k, hk, rfl, _, _⟩ := hrel
  by_cases hlt : k < 36
  · have hkl : k < l.length := by have := HL.out; omega
    have hkn : k < n := by omega
    have hln := HL.out
    have hd := doneH_len g l 36 k hk
    have hdk : k < (doneH g l 36 k).length := by omega
    have hD : Hid ((doneH g l 36 k).set k (g (hget l k) k) = doneH g l 36 (k + 1)) := Lib.hid (doneH_set g l 36 k hlt)
    go_wp2_with (first | ((with_reducible apply wpl_indexH); exact rfl; exact rfl; infer_instance; infer_instance; (first | (with_reducible assumption) | omega); (first | (with_reducible assumption) | omega); (first | (with_reducible assumption) | omega)) | ((with_reducible apply (wpl_loadhash (t := 23))); exact rfl; infer_instance; infer_instance; (first | (with_reducible assumption) | omega)))
    rw [← Array.append_assoc]
    refine (HC.out _ inferInstance (hget l k) k hlt).mono ?_
    rintro e w5 ⟨rfl, _⟩
    go_wp2_with (first | ((with_reducible apply wpl_indexH); exact rfl; exact rfl; infer_instance; infer_instance; (first | (with_reducible assumption) | omega); (first | (with_reducible assumption) | omega); (first | (with_reducible assumption) | omega)) | ((with_reducible apply (wpl_storehash (t := 23))); exact rfl; exact rfl; infer_instance; infer_instance; (first | (with_reducible assumption) | omega | (focus (simp; done)) | (focus (simp; omega; done)) | decide); intro ws _ _))
    rw [hD.out] at *
    refine ⟨⟨k + 1, by omega, by go_num, stepN, inferInstance⟩, ?_⟩
    simp [intOf]; omega
  · obtain rfl : k = 36 := by omega
    go_wp2_with fail
    go_ret
    refine ⟨zm, rfl, stepN, NewA.mono (w := _) (NewA.of_born 0), ?_⟩
    rw [← doneH_all]
    exact inferInstance
end Go.Proofs.YtgjnjhhhbkidbaaGreat
end
section
open Go Go.RowKit
namespace Go.Proofs.YtgjnjhhhbkidbaaGreat
def nodeOf (a b : List UInt8) : List UInt8 := sha (3 :: (a ++ b))
theorem nodeOf_len (a b : List UInt8) : (nodeOf a b).length = 32 := sha_len _
end Go.Proofs.YtgjnjhhhbkidbaaGreat
end
section
open Go Go.RowKit
namespace Go.Proofs.YtgjnjhhhbkidbaaGreat
set_option maxRecDepth 100000 in
set_option maxHeartbeats 800000 in
theorem node_calls (xs ys : List UInt8) (w : World) (hx : xs.length = 32) (hy : ys.length = 32) :
    Calls Tryz.prog 151 #[.agg (u8s xs), .agg (u8s ys)] w fun e w' => e = .returned (.agg (u8s (nodeOf xs ys))) ∧ Hid (Chg nowhere w w') := by
 have HX := Lib.hid hx
 have HY := Lib.hid hy
 have HI25 := Lib.hid (show (Tryz.prog.info? 23).map (·.size) = some 32 by kernel_rfl)
 have HI82 := Lib.hid (show (Tryz.prog.info? 245).map (·.size) = some 65 by kernel_rfl)
 have HML : Hid ((u8s (nodeOf xs ys)).size = 32) := Lib.hid (by rw [u8s_size, nodeOf_len])
 clear hx hy
 obtain ⟨W3, hW3⟩ : ∃ W3, W3 = ((w.alloc (.cells (u8s xs) 23)).alloc (.cells (u8s ys) 23)).alloc (.cells (u8s (nots 32)) 23) := ⟨_, rfl⟩
 have HSZ : Hid (W3.heap.size = w.heap.size + 1 + 1 + 1) := Lib.hid (by rw [hW3]; simp)
 have hz65 : Tryz.zeroCells245 = u8s (nots 65) := by kernel_rfl
 have hset : (u8s (nots 65)).setIfInBounds 0 (.int .u8 3) = u8s (3 :: nots 64) := by kernel_rfl
 have HRL : Hid ((u8s (3 :: nots 64)).size = 65) := Lib.hid (by rw [u8s_size]; rfl)
 have HROW : Hid (Blk (W3.alloc (.cells (u8s (nots 65)) 245)) (w.heap.size + 1 + 1 + 1) 245 (u8s (nots 65))) := Lib.hid (by
  have h := Blk.new W3 245 (u8s (nots 65))
  rw [HSZ.out] at h
  exact h)
 have BX : Hid (Blk W3 w.heap.size 23 (u8s xs)) := Lib.hid (by rw [hW3]; exact ((Blk.new w _ _).alloc _).alloc _)
 have BY : Hid (Blk W3 (w.heap.size + 1) 23 (u8s ys)) := Lib.hid (by rw [hW3]; exact (Blk.new1 w _ _ _).alloc _)
 have B0 : Hid (Blk W3 (w.heap.size + 1 + 1) 23 (u8s (nots 32))) := Lib.hid (by
  have h := Blk.new1 (w.alloc (.cells (u8s xs) 23)) (.cells (u8s ys) 23) 23 (u8s (nots 32))
  rw [hW3]
  simpa using h)
 have C3 : Hid (Chg nowhere w W3) := Lib.hid (by rw [hW3]; exact (((Chg.refl _ _).alloc _).alloc _).alloc _)
 have HW3 := Lib.hid hW3
 clear hW3
 go_enter Tryz.func151, Tryz.ntmps151
 go_wp2_with (change wpList _ _ _ _ _ ((((w.alloc (.cells (u8s xs) 23)).alloc (.cells (u8s ys) 23)).alloc (.cells (u8s (nots 32)) 23)).alloc (.cells (u8s (nots 65)) 245)); rw [← HW3.out]; refine wpList_store_row rfl 245 _ _ rfl (w.heap.size + 1 + 1 + 1) (u8s (3 :: nots 64)) rfl rfl 245 _ HROW.out (by rw [HRL.out]; exact HI82.out) (by rw [HRL.out]; rfl) (u8s_one _) ?_)
 obtain ⟨zx, hzx⟩ : ∃ z, z = w.heap.size := ⟨_, rfl⟩
 obtain ⟨zy, hzy⟩ : ∃ z, z = w.heap.size + 1 := ⟨_, rfl⟩
 obtain ⟨z0, hz0⟩ : ∃ z, z = w.heap.size + 1 + 1 := ⟨_, rfl⟩
 obtain ⟨zr, hzr⟩ : ∃ z, z = w.heap.size + 1 + 1 + 1 := ⟨_, rfl⟩
 obtain ⟨W4, hW4⟩ : ∃ W4, W4 = (W3.alloc (.cells (u8s (nots 65)) 245)).setRow (w.heap.size + 1 + 1 + 1) (u8s (3 :: nots 64)) := ⟨_, rfl⟩
 have BR4 : Hid (Blk (World.drew W4) zr 245 (u8s (3 :: nots 64))) := Lib.hid (by rw [hW4, hzr]; exact HROW.out.row_ _)
 have BX4 : Hid (Blk (World.drew W4) zx 23 (u8s xs)) := Lib.hid (by rw [hW4, hzx]; exact (BX.out.alloc _).rowFar (by omega) _)
 have BY4 : Hid (Blk (World.drew W4) zy 23 (u8s ys)) := Lib.hid (by rw [hW4, hzy]; exact (BY.out.alloc _).rowFar (by omega) _)
 have B04 : Hid (Blk (World.drew W4) z0 23 (u8s (nots 32))) := Lib.hid (by rw [hW4, hz0]; exact (B0.out.alloc _).rowFar (by omega) _)
 have C4 : Hid (Chg nowhere w (World.drew W4)) := Lib.hid (by rw [hW4]; exact ((C3.out.alloc _).setRow (fun h => by omega) _).drew)
 rw [← hW4, ← hzr, ← hz0, ← hzy, ← hzx]
 have hne : zx ≠ zr ∧ zy ≠ zr ∧ z0 ≠ zr ∧ w.heap.size ≤ zr ∧ w.heap.size ≤ z0 := by omega
 obtain ⟨n1, n2, n3, n4, n5⟩ := hne
 clear hzx hzy hz0 hzr hW4 HROW BX BY B0 C3 hz65 hset HW3 HSZ
 have HF1 : Hid (1 + 32 ≤ (3 :: nots 64).length) := Lib.hid (by decide)
 go_still_tail 2, (by kernel_rfl)
 change wpList _ _ _ _ _ (World.drew W4)
 generalize World.drew W4 = w5 at *
 go_wp2_with (refine wpList_copyB rfl (.tmp 7) (.tmp 8) 29 29 rfl 5 Tryz.underlying29 (by kernel_rfl) rfl rfl BR4.out (rd_u8s BX4.out) HX (by decide) HF1 ?_)
 intro w6 hb6 hc6
 obtain ⟨R, hR⟩ : ∃ R, R = 3 :: (xs ++ nots 32) := ⟨_, rfl⟩
 have BR6 : Hid (Blk (World.drew w6) zr 245 (u8s R)) := by
  have h := hb6
  rw [nots_drop, ← hR] at h
  exact h
 have BX6 : Hid (Blk (World.drew w6) zx 23 (u8s xs)) := Lib.hid (show _ from (Blk.chg (S := fun k => k = zr) BX4.out hc6.out.drew (fun h => n1 h)))
 have BY6 : Hid (Blk (World.drew w6) zy 23 (u8s ys)) := Lib.hid (show _ from (Blk.chg (S := fun k => k = zr) BY4.out hc6.out.drew (fun h => n2 h)))
 have B06 : Hid (Blk (World.drew w6) z0 23 (u8s (nots 32))) := Lib.hid (show _ from (Blk.chg (S := fun k => k = zr) B04.out hc6.out.drew (fun h => n3 h)))
 have C6 : Hid (Chg nowhere w (World.drew w6)) := Lib.hid ((C4.out.step hc6.out (fun x hx => by have h1 : x = zr := hx; omega)).drew)
 have HF2 : Hid (33 + 32 ≤ R.length) := Lib.hid (by rw [hR]; simp [HX.out])
 have E1 : Hid (R.take 33 = 3 :: xs) := Lib.hid (by rw [hR, List.take_succ_cons, List.take_left' HX.out])
 have E2 : Hid (R.drop 65 = []) := Lib.hid (by rw [hR]; simp [HX.out])
 clear hR hb6 hc6 BR4 BX4 BY4 B04 C4
 go_wp2_with fail
 go_still_tail 2, (by kernel_rfl)
 change wpList _ _ _ _ _ (World.drew w6)
 generalize World.drew w6 = w7 at *
 go_wp2_with (refine wpList_copyB rfl (.tmp 10) (.tmp 11) 29 29 rfl 5 Tryz.underlying29 (by kernel_rfl) rfl rfl BR6.out (rd_u8s BY6.out) HY (by decide) HF2 ?_)
 intro w8 hb8 hc8
 have BR8 : Hid (Blk w8 zr 245 (u8s (3 :: (xs ++ ys)))) := Lib.hid (by
  have h := hb8.out
  simp only [E1.out, E2.out, List.append_nil, List.cons_append] at h
  exact h)
 have B08 : Hid (Blk w8 z0 23 (u8s (nots 32))) := Lib.hid (Blk.chg (S := fun k => k = zr) B06.out hc8.out (fun h => n3 h))
 have C8 : Hid (Chg nowhere w w8) := Lib.hid (C6.out.step hc8.out (fun x hx => by have h1 : x = zr := hx; omega))
 clear hb8 hc8 BR6 BX6 BY6 B06 C6
 go_wp2_with fail
 refine (dSum_calls (some ⟨zr, 0, none⟩) 65 65 (3 :: (xs ++ ys)) _ (rd_u8s BR8.out) (by rw [List.length_cons, List.length_append, HX.out, HY.out]) (by decide) (by decide)).mono ?_
 rintro e w9 ⟨rfl, hc9⟩
 have C9 := Lib.hid (C8.out.step hc9.out (fun _ h => h.elim))
 have B9 := Lib.hid (B08.out.chg hc9.out (fun h => h))
 clear hc9
 go_wp2_with (refine wpList_store_row rfl 23 _ _ rfl z0 (u8s (nodeOf xs ys)) rfl rfl 23 _ B9.out (by rw [HML.out]; exact HI25.out) (by rw [HML.out]; rfl) (u8s_one _) ?_)
 refine bodyPost_ret (v := .agg (u8s (nodeOf xs ys))) (results_cell_row rfl _ _ z0 23 _ (0, 0) _ rfl (B9.out.row_ _) Tryz.underlying23 rfl (by rw [HML.out]; exact HI25.out)) rfl ⟨rfl, ?_⟩
 exact C9.out.setRow (fun h => by omega) _
end Go.Proofs.YtgjnjhhhbkidbaaGreat
end
section
open Go Go.RowKit
namespace Go.Proofs.YtgjnjhhhbkidbaaGreat
theorem hget_ext {l m : List H32} (h : l.length = m.length) (k : ∀ i, i < l.length → hget l i = hget m i) : l = m := by
 apply List.ext_getElem h
 intro i h1 h2
 have := k i h1
 simpa [hget, List.getD_eq_getElem?_getD, h1, h2] using this
end Go.Proofs.YtgjnjhhhbkidbaaGreat
end
