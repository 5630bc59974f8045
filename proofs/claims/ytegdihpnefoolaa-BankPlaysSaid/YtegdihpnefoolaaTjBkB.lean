/- BkB -/
import Derived.Test.YtegdihpnefoolaaTjBkA
open Go Go.RowKit
namespace Go.Proofs.Ytegdihpnefoolaa
/-- a state's cells -/
def bkL (b z : Int) (h : H32) (c : Int) (nm : ByteArray) (A : Option Addr) (n cc : Nat) : List Value := .int .i64 b :: .int .i64 z :: (bs h.l ++ [.int .i64 c, .string nm, .slice A n cc])
theorem bkL_len (b z : Int) (h : H32) (c : Int) (nm : ByteArray) (A : Option Addr) (n cc : Nat) : (bkL b z h c nm A n cc).toArray.size = 37 := by
  simp [bkL, bs, h.len]
theorem bkL_one (b z : Int) (h : H32) (c : Int) (nm : ByteArray) (A : Option Addr) (n cc : Nat) : (bkL b z h c nm A n cc).toArray.all (·.oneCell') = true := by
  rw [Array.all_eq_true_iff_forall_mem]
  intro u hu
  have hu' : u ∈ bkL b z h c nm A n cc := by simpa using hu
  rcases List.mem_cons.1 hu' with rfl | hu'
  · rfl
  rcases List.mem_cons.1 hu' with rfl | hu'
  · rfl
  rcases List.mem_append.1 hu' with hu' | hu'
  · exact bs_one h.l u hu'
  · simp only [List.mem_cons, List.not_mem_nil, or_false] at hu'
    rcases hu' with rfl | rfl | rfl <;> rfl
instance bkZeroP : ZeroT Try.prog 54 (bkL 0 0 zeroH 0 ⟨#[]⟩ none 0 0).toArray := ⟨.agg (bkL 0 0 zeroH 0 ⟨#[]⟩ none 0 0).toArray, fun _ => by kernel_rfl, rfl⟩
instance bkZeroR : ZeroT Try.prog 57 (bkL 0 0 zeroH 0 ⟨#[]⟩ none 0 0).toArray := ⟨.agg (bkL 0 0 zeroH 0 ⟨#[]⟩ none 0 0).toArray, fun _ => by kernel_rfl, rfl⟩
instance bkRowP : RowT Try.prog 54 37 := ⟨by kernel_rfl, _, Try.underlying54, rfl⟩
instance bkRowR : RowT Try.prog 57 37 := ⟨by kernel_rfl, _, Try.underlying57, rfl⟩
instance bkCellS : CellT Try.prog 9 := ⟨fun _ => by kernel_rfl, fun _ => by kernel_rfl⟩
theorem bs32' (h : H32) : (bs h.l).length = 32 := by rw [bs_length, h.len]
section
variable (b z : Int) (h : H32) (c : Int) (nm : ByteArray) (A : Option Addr) (n cc : Nat)
theorem bk_get0 : (bkL b z h c nm A n cc).toArray[0]? = some (.int .i64 b) := by simp [bkL]
theorem bk_get1 : (bkL b z h c nm A n cc).toArray[1]? = some (.int .i64 z) := by simp [bkL]
theorem bk_hi (k : Nat) (x y u : Value) (hk : k < 3) : (Value.int .i64 b :: .int .i64 z :: (bs h.l ++ [x, y, u]))[34 + k]? = [x, y, u][k]? := by
  rw [show 34 + k = (32 + k) + 1 + 1 by omega, List.getElem?_cons_succ, List.getElem?_cons_succ, List.getElem?_append_right (by rw [bs32']; omega), bs32']
  congr 1
  omega
theorem bk_get34 : (bkL b z h c nm A n cc).toArray[34]? = some (.int .i64 c) := by
  rw [List.getElem?_toArray]; exact bk_hi b z h 0 _ _ _ (by decide)
theorem bk_get35 : (bkL b z h c nm A n cc).toArray[35]? = some (.string nm) := by
  rw [List.getElem?_toArray]; exact bk_hi b z h 1 _ _ _ (by decide)
theorem bk_get36 : (bkL b z h c nm A n cc).toArray[36]? = some (.slice A n cc) := by
  rw [List.getElem?_toArray]; exact bk_hi b z h 2 _ _ _ (by decide)
theorem bk_set0 (v : Int) : (bkL b z h c nm A n cc).toArray.setIfInBounds 0 (.int .i64 v) = (bkL v z h c nm A n cc).toArray := by
  rw [sA]; rfl
theorem bk_set1 (v : Int) : (bkL b z h c nm A n cc).toArray.setIfInBounds 1 (.int .i64 v) = (bkL b v h c nm A n cc).toArray := by
  rw [sA]; rfl
theorem bk_sethi (k : Nat) (x y u v : Value) : (Value.int .i64 b :: .int .i64 z :: (bs h.l ++ [x, y, u])).set (34 + k) v = Value.int .i64 b :: .int .i64 z :: (bs h.l ++ [x, y, u].set k v) := by
  rw [show 34 + k = (32 + k) + 1 + 1 by omega, sB, sB, List.set_append_right _ _ (by rw [bs32']; omega), bs32']
  congr 4
  omega
theorem bk_set34 (v : Int) : (bkL b z h c nm A n cc).toArray.setIfInBounds 34 (.int .i64 v) = (bkL b z h v nm A n cc).toArray := by
  rw [sA]; exact congrArg List.toArray (bk_sethi b z h 0 _ _ _ _)
theorem bk_set35 (v : ByteArray) : (bkL b z h c nm A n cc).toArray.setIfInBounds 35 (.string v) = (bkL b z h c v A n cc).toArray := by
  rw [sA]; exact congrArg List.toArray (bk_sethi b z h 1 _ _ _ _)
theorem bk_set36 (A' : Option Addr) (n' c' : Nat) : (bkL b z h c nm A n cc).toArray.setIfInBounds 36 (.slice A' n' c') = (bkL b z h c nm A' n' c').toArray := by
  rw [sA]; exact congrArg List.toArray (bk_sethi b z h 2 _ _ _ _)
end
/-- 32 bytes or none, laid over a digest of noughts -/
theorem RS.raw_c (s : RS) : (s.raw 32).1.length = 32 ∨ (s.raw 32).1 = [] := by
  unfold RS.raw
  split
  · exact .inr rfl
  · rename_i h
    refine .inl ?_
    show (s.b.take (32 : Int).toNat).length = 32
    rw [List.length_take]
    have : ¬ (s.b.length : Int) < 32 := fun h2 => h (.inr (.inr h2))
    omega
theorem RS.raw_l (s : RS) (i : Int) : (s.raw i).2.b.length ≤ s.b.length := by
  unfold RS.raw
  split
  · exact Nat.zero_le _
  · show (s.b.drop i.toNat).length ≤ _
    rw [List.length_drop]; omega
theorem RS.raw_1 (s : RS) (i : Int) : (s.raw i).1.length ≤ s.b.length := by
  unfold RS.raw
  split
  · exact Nat.zero_le _
  · exact List.length_take_le' _ _
theorem RS.row_le (s : RS) : s.row.2.b.length ≤ s.b.length := by
  unfold RS.row
  exact Nat.le_trans (RS.raw_l _ _) (RS.num_le s)
theorem RS.row_1 (s : RS) : s.row.1.length ≤ s.b.length := Nat.le_trans (s.num.2.raw_1 _) (RS.num_le s)
theorem bk_copy (s : RS) (b z c : Int) (nm : ByteArray) (A : Option Addr) (n cc : Nat) : (bkL b z zeroH c nm A n cc).toArray.toList.take 2 ++ (bs (s.raw 32).1 ++ (bkL b z zeroH c nm A n cc).toArray.toList.drop (2 + (bs (s.raw 32).1).length)) = (bkL b z s.hsh32 c nm A n cc).toArray.toList := by
  rcases s.raw_c with h | h
  · rw [RS.hsh32, dif_pos h, bs_length, h]
    show [Value.int .i64 b, .int .i64 z] ++ (bs (s.raw 32).1 ++ (bs zeroH.l ++ [Value.int .i64 c, .string nm, .slice A n cc]).drop 32) = _
    rw [List.drop_append, List.drop_eq_nil_of_le (by rw [bs32']; exact Nat.le_refl _), bs32']
    rfl
  · rw [RS.hsh32, dif_neg (by rw [h]; decide), h]
    rfl
section
variable {P : Program} {ops : Array Oper} {rest : List Oper} {a : Act} {w : World} {Q : Exit → Act → World → Prop} {dst : Option Tmp} {ty : TypeId} {pos : String} {after : Array Edge}
/-- bytes copied into a part of a block -/
theorem wpl_copyP {d s : Operand} {dT sT elem : TypeId} (hu : P.underlying dT = some (.slice elem)) (hsz : (P.info? elem).map (·.size) = some 1)
    {g off dLen dCap : Nat} {sp : Option Addr} {sLen sCap : Nat} (hd : a.eval d = .slice (some ⟨g, off, none⟩) dLen dCap) (hs : a.eval s = .slice sp sLen sCap)
    {cur : Array Value} {t : TypeId} (hb : HB w g t cur) {xs : List UInt8} (hr : HR w sp (bs xs)) (hxl : xs.length = sLen) (hle : sLen ≤ dLen) (hfit : off + sLen ≤ cur.size) {cs' : Array Value} (hcs : cur.toList.take off ++ (bs xs ++ cur.toList.drop (off + (bs xs).length)) = cs'.toList)
    (h : ∀ w', Step (only g) w w' → HB w' g t cs' → wpList P ops Q rest (a.put dst (.int .i64 sLen)) w') :
    wpList P ops Q (⟨dst, .call { callee := .builtin .copy, args := #[d, s], argTypes := #[dT, sT] }, ty, pos, after, none⟩ :: rest) a w := by
  rcases Nat.eq_zero_or_pos sLen with h0 | h0
  · subst h0
    obtain rfl : xs = [] := List.eq_nil_of_length_eq_zero hxl
    have e : cs' = cur := by
      apply Array.ext'
      rw [← hcs]
      simp [bs]
    subst e
    exact wpList_copy_nothing rfl d s dT sT rfl elem hu hsz (some ⟨g, off, none⟩) sp dLen dCap 0 sCap hd hs (by simp) (h w ⟨Chg.refl _ _⟩ hb)
  · obtain ⟨ad, rfl, _⟩ := hr.out.lt (by rw [bs_length]; omega)
    refine wpList_copy_own rfl d s dT sT rfl elem hu hsz g off dLen dCap ad sLen sCap hd hs cur t hb.out (bs xs) (by rw [bs_length, hxl]; exact (Nat.min_eq_left hle).symm) (fun j v hj => by
      obtain ⟨ad', e, h⟩ := hr.out j v hj
      injection e with e
      subst e
      exact h) (by rw [bs_length]; omega) (bs_one xs) ?_
    have e1 : (cur.toList.take off ++ (bs xs ++ cur.toList.drop (off + (bs xs).length))).toArray = cs' := by rw [hcs]
    rw [e1, bs_length, hxl]
    exact h _ ⟨Chg.setRow (S := only g) (Chg.refl _ _) (fun _ => rfl) _⟩ ⟨hb.out.row_ _⟩
/-- a part of a block read, whole -/
theorem ev_loadpartB {gd : Option (Nat × Bool)} {t : TypeId} {x : Operand} {g k : Nat} (hx : a.eval x = .pointer (some ⟨g, k, none⟩)) {tb : TypeId} {cs : Array Value} (hb : HB w g tb cs) (ht : RowT P t 32) {hh : H32} (hv : (cs.toList.drop k).take 32 = bs hh.l) :
    (execOp a.eval ⟨dst, .load t x, ty, pos, after, gd⟩).run P w = .ok (.value (.agg (u8s hh.l))) w := by
  show ((Instr.loadAt t (a.eval x)) >>= fun v => pure (Next.value v)).run P w = _
  have e : a.eval x = ptrOf (some ⟨g, 0, none⟩) k := by
    rw [hx]
    simp [ptrOf, shift, add_row]
  rw [e, Sem.run_bind, run_loadshift (k := k) (cs := bs hh.l) hb.rdL ht (bs32' hh) hv (by decide)]
  rfl
/-- an array within a block, as a slice -/
theorem ev_sl_arrB {gd : Option (Nat × Bool)} {t e : TypeId} {x : Operand} {g k m : Nat} (hx : a.eval x = .pointer (some ⟨g, k, none⟩)) (hu : P.underlying t = some (.array m e)) (hs : (P.info? e).map (·.size) = some 1) :
    (execOp a.eval ⟨dst, .slice t x none none none, ty, pos, after, gd⟩).run P w = .ok (.value (.slice (some ⟨g, k, none⟩) m m)) w := by
  show ((Instr.sliceAt t (a.eval x) none none none) >>= fun v => pure (Next.value v)).run P w = _
  rw [hx]
  cases hq : P.info? e with
  | none => rw [hq] at hs; simp at hs
  | some i => simp [Instr.sliceAt, run_underlying hu, Instr.sureAddr, Instr.sliceBounds, sizeOf, typeInfo, hq, add_zero_spot]
end
theorem bk_sum (b z : Int) (h : H32) (c : Int) (nm : ByteArray) (A : Option Addr) (n cc : Nat) : ((bkL b z h c nm A n cc).toArray.toList.drop 2).take 32 = bs h.l := by
  show (bs h.l ++ [Value.int .i64 c, .string nm, .slice A n cc]).take 32 = bs h.l
  rw [List.take_append_of_le_length (by rw [bs32']; exact Nat.le_refl _)]
  exact List.take_of_length_le (by rw [bs32']; exact Nat.le_refl _)
def gzB (g z : Nat) : Nat → Prop := fun x => x = g ∨ x = z
instance (w : World) (g z : Nat) : Sub w (only g) (gzB g z) := ⟨fun _ _ h => .inl h⟩
instance (w : World) (g z : Nat) : Sub w (only z) (gzB g z) := ⟨fun _ _ h => .inr h⟩
instance (w : World) (g z : Nat) : Into w (only g) (gzB g z) := ⟨fun _ _ h => .inl h⟩
instance (w : World) (g z : Nat) : Into w (only z) (gzB g z) := ⟨fun _ _ h => .inr h⟩
theorem run_ptr2B (a b : Option Addr) (w : World) : (Instr.buildSlice 146 2 #[(0, .pointer a), (1, .pointer b)]).run Try.prog w = .ok (.slice (some ⟨w.heap.size, 0, none⟩) 2 2) (w.alloc (.cells #[.pointer a, .pointer b] 129)) := by kernel_rfl
theorem put2B (z : Nat) (s : RS) (c : Int) (h : H32) (nm : ByteArray) (A : Option Addr) (n cc : Nat) : putN z [some ⟨z, 0, none⟩, some ⟨z, 1, none⟩] s 2 (bkL 0 0 h c nm A n cc).toArray = (bkL (s.num.1 : Nat) ((s.at 1).num.1 : Nat) h c nm A n cc).toArray := by
  simp only [putN, List.getElem?_cons_zero, List.getElem?_cons_succ, if_pos]
  rw [bk_set0, bk_set1]
  rfl
theorem ne_of_leB {a b : List UInt8} (h : a.length ≤ b.length) (ha : a ≠ []) : b ≠ [] := fun hb => ha (List.eq_nil_of_length_eq_zero (by rw [hb] at h; simpa using h))
end Go.Proofs.Ytegdihpnefoolaa
