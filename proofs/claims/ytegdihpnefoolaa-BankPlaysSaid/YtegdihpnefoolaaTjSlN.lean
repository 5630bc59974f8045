/- Conv, SlL, SlK, SlN -/
import Derived.Test.YtegdihpnefoolaaTjBase
import Derived.Laws.BytesArg
import Derived.Laws.BytesString
import Derived.Test.YtegdihpnefoolaaTjSlJ
import Derived.Lib.SlBytesConst
section
open Go Go.RowKit
namespace Go.Proofs.Ytegdihpnefoolaa
def strL (xs : List UInt8) : ByteArray := ⟨xs.toArray⟩
theorem list_loop (a : ByteArray) : ∀ (m i : Nat) (r : List UInt8), m = a.size - i → ByteArray.toList.loop a i r = r.reverse ++ a.data.toList.drop i
  | 0, i, r, h => by
    have hsz : a.data.toList.length = a.size := Array.length_toList
    rw [ByteArray.toList.loop, if_neg (by omega), List.drop_of_length_le (by omega), List.append_nil]
  | m + 1, i, r, h => by
    rw [ByteArray.toList.loop, if_pos (by omega), list_loop a m (i + 1) _ (by omega)]
    have hsz : a.data.toList.length = a.size := Array.length_toList
    have hi : i < a.data.toList.length := by omega
    rw [List.drop_eq_getElem_cons hi]
    have e : a.get! i = a.data.toList[i] := by
      simp only [ByteArray.get!]
      rw [getElem!_pos a.data i (by simpa using hi)]
      simp
    rw [e]
    simp
theorem strL_list (xs : List UInt8) : (strL xs).toList = xs := by
  show ByteArray.toList.loop (strL xs) 0 [] = xs
  rw [list_loop (strL xs) _ 0 [] rfl]
  simp [strL]
section
variable {P : Program} {ops : Array Oper} {rest : List Oper} {a : Act} {w : World} {Q : Exit → Act → World → Prop} {dst : Option Tmp} {ty : TypeId} {pos : String} {after : Array Edge}
theorem foldl_push (xs : List UInt8) (b : ByteArray) : (xs.map fun x => (x.toNat : Int)).foldl (fun a n => a.push (UInt8.ofNat n.toNat)) b = ⟨b.data ++ xs.toArray⟩ := by
  induction xs generalizing b with
  | nil => simp
  | cons x xs ih =>
    rw [List.map_cons, List.foldl_cons, ih]
    congr 1
    apply Array.ext'
    simp [ByteArray.push]
theorem run_convS {src td e : TypeId} {A : Option Addr} {n c : Nat} {xs : List UInt8} (hr : Rd w A (bs xs)) (hn : xs.length = n)
    (hs : P.underlying src = some (.slice e)) (he : P.underlying e = some (.int .u8)) (hd : P.underlying td = some .string) : (convert src td (.slice A n c)).run P w = .ok (.string (strL xs)) w := by
  cases A with
  | none =>
    have hx : xs = [] := by
      cases xs with
      | nil => rfl
      | cons x l => obtain ⟨ad, h, _⟩ := hr 0 _ rfl; cases h
    subst hx
    subst hn
    exact run_convert_bytes_nil w src e hs he _ c td hd
  | some ad =>
    have hl : (loadCells ad n).run P w = .ok ((xs.map fun x => (x.toNat : Int)).map (Value.int .u8)).toArray w := by
      have h := run_loadCells_list (P := P) w ad (bs xs) (fun j v hv => by
        obtain ⟨ad', e1, e2⟩ := hr j v hv
        injection e1 with e1
        subst e1
        exact e2)
      rw [bs_length, hn] at h
      rw [h, List.map_map]
      rfl
    rw [run_convert_bytes_string w src td e ad n c hs he hd, run_bytesToString w ad n c _ hl, foldl_push]
    simp [strL]
theorem wpl_conv {src td e : TypeId} {x : Operand} {A : Option Addr} {n c : Nat} {xs : List UInt8} (hx : a.eval x = .slice A n c) (hr : HR w A (bs xs)) (hn : xs.length = n)
    (hs : P.underlying src = some (.slice e)) (he : P.underlying e = some (.int .u8)) (hd : P.underlying td = some .string)
    (h : wpList P ops Q rest (a.put dst (.string (strL xs))) w) : wpList P ops Q (⟨dst, .convert src td x, ty, pos, after, none⟩ :: rest) a w :=
  wpl_of_run rfl (by
    show ((convert src td (a.eval x)) >>= fun v => pure (Next.value v)).run P w = _
    rw [hx, Sem.run_bind, run_convS hr.out hn hs he hd]
    rfl) h
theorem ev_conv {gd : Option (Nat × Bool)} {src td e : TypeId} {x : Operand} {A : Option Addr} {n c : Nat} {xs : List UInt8} (hx : a.eval x = .slice A n c) (hr : HR w A (bs xs)) (hn : xs.length = n)
    (hs : P.underlying src = some (.slice e)) (he : P.underlying e = some (.int .u8)) (hd : P.underlying td = some .string) : (execOp a.eval ⟨dst, .convert src td x, ty, pos, after, gd⟩).run P w = .ok (.value (.string (strL xs))) w := by
  show ((convert src td (a.eval x)) >>= fun v => pure (Next.value v)).run P w = _
  rw [hx, Sem.run_bind, run_convS hr.out hn hs he hd]
  rfl
end
end Go.Proofs.Ytegdihpnefoolaa
end
section
open Go Go.RowKit
namespace Go.Proofs.Ytegdihpnefoolaa
section
variable {P : Program} {ops : Array Oper} {rest : List Oper} {a : Act} {w : World} {Q : Exit → Act → World → Prop}
theorem hr_marked (w : World) (cs : Array Value) (e : TypeId) (r : Nat × Nat) : HR (w.alloc (.cells cs e r)) (some ⟨w.heap.size, 0, none⟩) cs.toList := ⟨fun k u hk => by
  refine ⟨_, rfl, ?_⟩
  rw [add_row]
  have hk' : cs[k]? = some u := by simpa using hk
  have e1 := World.alloc_heap_new w (.cells cs e r)
  simp only [World.cell?, e1]
  exact hk'⟩
theorem wpl_lit {t e : TypeId} {len : Nat} {ps : List (Nat × Operand)} {cs : Array Value} {d1 d2 : Option Tmp} {ty1 ty2 : TypeId} {pos1 pos2 : String} {af1 af2 : Array Edge} {x : Operand}
    (hr : (Instr.buildSlice t len (ps.map fun (i, x) => (i, a.eval x)).toArray).run P w = .ok (.slice (some ⟨w.heap.size, 0, none⟩) len len) (w.alloc (.cells cs e)))
    (hx : ∀ v, (a.put d1 v).eval x = v) (ht : P.underlying t = some (.slice e)) (he : P.underlying e = some (.int .u8))
    (h : ∀ g w', Born w g → Step nowhere w w' → HR w' (some ⟨g, 0, none⟩) cs.toList → wpList P ops Q rest ((a.put d1 (.slice (some ⟨g, 0, none⟩) len len)).put d2 (.slice (some ⟨g, 0, none⟩) len len)) w') :
    wpList P ops Q (⟨d1, .buildSlice t len ps.toArray, ty1, pos1, af1, none⟩ :: ⟨d2, .convert t t x, ty2, pos2, af2, none⟩ :: rest) a w :=
  wpl_of_run rfl (by
    show ((Instr.buildSlice t len (ps.toArray.map fun (i, x) => (i, a.eval x))) >>= fun v => pure (Next.value v)).run P w = _
    rw [Sem.run_bind, List.map_toArray, hr]
    rfl) (wpl_of_run rfl (by
    show ((convert t t ((a.put d1 (.slice (some ⟨w.heap.size, 0, none⟩) len len)).eval x)) >>= fun v => pure (Next.value v)).run P (w.alloc (.cells cs e)) = _
    rw [hx, Sem.run_bind, Lib.run_convert_bytes_const w t e cs len len ht he]
    rfl) (h w.heap.size _ ⟨rfl⟩ ⟨(Chg.refl _ _).alloc _⟩ (hr_marked w cs e _)))
end
end Go.Proofs.Ytegdihpnefoolaa
end
section
open Go Go.RowKit
namespace Go.Proofs.Ytegdihpnefoolaa
/-- a flash that lives, whose newest record is this -/
structure SlotAt (w : World) (g p N n : Nat) (b : List UInt8) : Prop where
  ex : ∃ s, FlashAt w g p N s ∧ live s ∧ (bestS s).2 = (n, b)
  big : 80 ≤ N
theorem SlotAt.chg {S : Nat → Prop} {w w' : World} {g p N n : Nat} {b : List UInt8} (h : SlotAt w g p N n b) (c : Chg S w w') (hg : ¬ S g) (hp : ¬ S p) : SlotAt w' g p N n b := by
  obtain ⟨⟨s, h1, h2, h3⟩, h4⟩ := h
  exact ⟨⟨s, h1.chg c hg hp, h2, h3⟩, h4⟩
theorem SlotAt.calm {w w' : World} {g p N n : Nat} {b : List UInt8} (h : SlotAt w g p N n b) (c : Chg nowhere w w') : SlotAt w' g p N n b := h.chg c (fun h => h) (fun h => h)
theorem SlotAt.lts {w : World} {g p N n : Nat} {b : List UInt8} (h : SlotAt w g p N n b) : g < w.heap.size ∧ p < w.heap.size := by
  obtain ⟨⟨s, h1, _⟩, _⟩ := h
  exact h1.lts
section
variable {w : World} {g p N n : Nat} {b : List UInt8}
end
theorem above_two {w : World} {g p : Nat} (hg : w.heap.size ≤ g) (hp : w.heap.size ≤ p) : Above w (Two g p) := ⟨fun k h => by rcases h with h | h <;> omega⟩
theorem run_byte1 (x : UInt8) (w : World) : (Instr.buildSlice 22 1 #[(0, .int .u8 (x.toNat : Int))]).run Try.prog w = .ok (.slice (some ⟨w.heap.size, 0, none⟩) 1 1) (w.alloc (.cells (u8s [x]) 5)) := by kernel_rfl
theorem strL_self (l : List UInt8) : ((strL l).toList == l) = true := by rw [strL_list]; simp
end Go.Proofs.Ytegdihpnefoolaa
end
section
open Go Go.RowKit
namespace Go.Proofs.Ytegdihpnefoolaa
end Go.Proofs.Ytegdihpnefoolaa
end
