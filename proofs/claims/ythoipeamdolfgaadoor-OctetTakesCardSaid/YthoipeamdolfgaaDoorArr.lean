/- Arrays as values: a block's whole row written; words and bytes as rows; what an alloc of noughts makes. -/
import Derived.Test.YthoipeamdolfgaaDoorMem
import Derived.Laws.Rows
import Derived.Deep.MidRow
import Derived.Deep.WholeRow
import Derived.Laws.CopyOwn
open Go Go.RowKit
namespace Go.Proofs.YthoipeamdolfgaaDoor
section
variable {S : Nat → Prop} {w w' : World} {g g' : Nat} {t : TypeId} {cs old : Array Value}
theorem Blk.row_ (h : Blk w g t old) (cs : Array Value) : Blk (w.setRow g cs) g t cs := setRow_heap w g old cs t (0, 0) h
theorem Blk.rowFar (h : Blk w g t cs) (hne : g ≠ g') (cs' : Array Value) : Blk (w.setRow g' cs') g t cs := (setRow_other w g' g cs' hne).trans h
theorem Chg.setRow {a : World} (h : Chg S a w) (hp : g < a.heap.size → S g) (cs : Array Value) : Chg S a (w.setRow g cs) :=
  h.trans (T := fun k => k = g) ⟨rfl, rfl, rfl, by simp, fun k _ hn => setRow_other w g k cs hn⟩ (fun x hx e => by subst e; exact hp hx)
end
theorem Blk.new1 (w : World) (o : Obj) (t : TypeId) (cs : Array Value) : Blk ((w.alloc o).alloc (.cells cs t)) (w.heap.size + 1) t cs := by
  have h := Blk.new (w.alloc o) t cs
  simpa using h
def u32s (ws : List Nat) : Array Value := (ws.map fun x : Nat => Value.int .u32 (x : Int)).toArray
theorem u32s_get (ws : List Nat) (i : Nat) (h : i < ws.length) : (u32s ws)[i]? = some (.int .u32 (ws.getD i 0 : Nat)) := by
  simp [u32s, List.getD_eq_getElem?_getD, List.getElem?_eq_getElem h]
theorem u32s_size (ws : List Nat) : (u32s ws).size = ws.length := by simp [u32s]
theorem u32s_one (ws : List Nat) : (u32s ws).all (·.oneCell') = true := by
  rw [Array.all_eq_true_iff_forall_mem]
  intro x hx
  simp [u32s] at hx
  obtain ⟨y, _, rfl⟩ := hx
  rfl
theorem u32s_set (ws : List Nat) (i x : Nat) : (u32s ws).setIfInBounds i (.int .u32 (x : Int)) = u32s (ws.set i x) := by
  apply Array.ext'
  simp [u32s, List.map_set]
/-- bytes as an array -/
def u8s (xs : List UInt8) : Array Value := (bs xs).toArray
theorem u8s_get (xs : List UInt8) (i : Nat) (h : i < xs.length) : (u8s xs)[i]? = some (.int .u8 ((xs.getD i 0).toNat : Int)) := by
  simp [u8s, bs, u8v, List.getD_eq_getElem?_getD, List.getElem?_eq_getElem h]
theorem u8s_size (xs : List UInt8) : (u8s xs).size = xs.length := by simp [u8s, bs]
theorem u8s_one (xs : List UInt8) : (u8s xs).all (·.oneCell') = true := by
  rw [Array.all_eq_true_iff_forall_mem]
  intro x hx
  simp [u8s, bs] at hx
  obtain ⟨y, _, rfl⟩ := hx
  rfl
theorem u8s_set (xs : List UInt8) (i : Nat) (x : UInt8) : (u8s xs).setIfInBounds i (.int .u8 (x.toNat : Int)) = u8s (xs.set i x) := by
  apply Array.ext'
  simp [u8s, bs, List.map_set, u8v]
theorem u8s_inj {xs ys : List UInt8} (h : u8s xs = u8s ys) : xs = ys := bs_inj (by simpa [u8s] using h)
theorem rd_u8s {w : World} {g : Nat} {t : TypeId} {xs : List UInt8} (h : Blk w g t (u8s xs)) : Rd w (some ⟨g, 0, none⟩) (bs xs) := fun k u hk => by
  refine ⟨_, rfl, ?_⟩
  rw [add_row, h.cell k]
  simpa [u8s] using hk
theorem wpList_copyB {P : Program} {w : World} {ops : Array Oper} {rest : List Oper} {o : Oper} {a : Act} {Q : Exit → Act → World → Prop} (hgd : o.guard = none) (d s : Operand) (dT sT : TypeId)
    (ho : o.op = .call { callee := .builtin .copy, args := #[d, s], argTypes := #[dT, sT] }) (elem : TypeId) (hu : P.underlying dT = some (.slice elem)) (hsz : (P.info? elem).map (·.size) = some 1)
    {g off dLen dCap : Nat} {sp : Option Addr} {sLen sCap : Nat} (hd : a.eval d = .slice (some ⟨g, off, none⟩) dLen dCap) (hs : a.eval s = .slice sp sLen sCap)
    {cur : List UInt8} {t : TypeId} (hb : Blk w g t (u8s cur)) {xs : List UInt8} (hr : Rd w sp (bs xs)) (hxl : Hid (xs.length = sLen)) (hle : sLen ≤ dLen) (hfit : Hid (off + sLen ≤ cur.length))
    (h : ∀ w', Hid (Blk w' g t (u8s (cur.take off ++ xs ++ cur.drop (off + sLen)))) → Hid (Chg (fun k => k = g) w w') → wpList P ops Q rest (a.put o.dst (.int .i64 sLen)) w') : wpList P ops Q (o :: rest) a w := by
  have hxl := hxl.out
  have hfit := hfit.out
  rcases Nat.eq_zero_or_pos sLen with h0 | h0
  · subst h0
    obtain rfl : xs = [] := List.eq_nil_of_length_eq_zero hxl
    refine wpList_copy_nothing hgd d s dT sT ho elem hu hsz (some ⟨g, off, none⟩) sp dLen dCap 0 sCap hd hs (by simp) ?_
    exact h w (Lib.hid (by simpa using hb)) (Chg.refl _ _)
  · obtain ⟨ad, rfl, _⟩ := hr.lt (by rw [bs_length]; omega)
    refine wpList_copy_own hgd d s dT sT ho elem hu hsz g off dLen dCap ad sLen sCap hd hs (u8s cur) t hb (bs xs) (by rw [bs_length, hxl]; exact (Nat.min_eq_left hle).symm) (fun j v hj => by
      obtain ⟨ad', e, h⟩ := hr j v hj
      injection e with e
      subst e
      exact h) (by rw [bs_length, u8s_size]; omega) (bs_one xs) ?_
    have e1 : ((u8s cur).toList.take off ++ (bs xs ++ (u8s cur).toList.drop (off + (bs xs).length))).toArray = u8s (cur.take off ++ xs ++ cur.drop (off + sLen)) := by
      rw [bs_length, hxl]
      simp [u8s, bs]
    rw [e1, bs_length, hxl]
    exact h _ (hb.row_ _) (Chg.setRow (S := fun k => k = g) (Chg.refl _ _) (fun _ => rfl) _)
end Go.Proofs.YthoipeamdolfgaaDoor
