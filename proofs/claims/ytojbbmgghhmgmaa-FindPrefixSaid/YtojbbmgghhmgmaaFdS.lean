/- What a search does; its block. -/
import Derived.Test.YtojbbmgghhmgmaaFdN
import Derived.Test.YtojbbmgghhmgmaaShelf
open Go Go.RowKit
namespace Go.Proofs.Ytojbbmgghhmgmaa
structure Res where
  asked : Int → Bool
  hit : Option (TG × ByteArray)
  over : Bool
def insI (f : Int → Bool) (k : Int) : Int → Bool := fun x => decide (x = k) || f x
def ownF (L : List TG) (nm : ByteArray) : Option TG := L.find? (fun g => decide (g.name = nm))
def hasPre (nm pre : ByteArray) : Bool := Lib.hasPrefix nm.data.toList pre.data.toList
def loopS (fol : (Int → Bool) → ByteArray → Res) (nm : ByteArray) : List DL → (Int → Bool) → Res
  | [], f => ⟨f, none, false⟩
  | d :: ds, f => if hasPre nm d.pre then
      (if (fol f d.name).over || d.last then ⟨(fol f d.name).asked, (fol f d.name).hit, true⟩ else loopS fol nm ds (fol f d.name).asked)
    else loopS fol nm ds f
def folS (ts : List TS) (ask : (Int → Bool) → Nat → Res) (f : Int → Bool) (x : ByteArray) : Res :=
  match placeS ts x with
  | none => ⟨f, none, false⟩
  | some j => if f j then ⟨f, none, false⟩ else ask f j
def askS (ts : List TS) (nm : ByteArray) : Nat → (Int → Bool) → Nat → Res
  | 0, f, i => match ownF (gt ts i).L nm with
    | some g => ⟨insI f i, some (g, (gt ts i).name), true⟩
    | none => loopS (fun f _ => ⟨f, none, false⟩) nm (gt ts i).D (insI f i)
  | r + 1, f, i => match ownF (gt ts i).L nm with
    | some g => ⟨insI f i, some (g, (gt ts i).name), true⟩
    | none => loopS (folS ts (askS ts nm r)) nm (gt ts i).D (insI f i)
/-- how many of so many are asked -/
def cnt (f : Int → Bool) : Nat → Nat
  | 0 => 0
  | k + 1 => cnt f k + (if f (k : Int) then 1 else 0)
theorem cnt_le (f : Int → Bool) : ∀ k, cnt f k ≤ k
  | 0 => Nat.le_refl _
  | k + 1 => by rw [cnt]; have := cnt_le f k; split <;> omega
theorem cnt_ins_ge (f : Int → Bool) (i : Nat) : ∀ k, k ≤ i → cnt (insI f i) k = cnt f k
  | 0, _ => rfl
  | k + 1, h => by
    rw [cnt, cnt, cnt_ins_ge f i k (by omega)]
    have e : insI f i (k : Int) = f (k : Int) := by
      unfold insI
      rw [decide_eq_false (by omega), Bool.false_or]
    rw [e]
theorem cnt_ins (f : Int → Bool) (i : Nat) (hf : f (i : Int) = false) : ∀ k, i < k → cnt (insI f i) k = cnt f k + 1
  | 0, h => by omega
  | k + 1, h => by
    rw [cnt, cnt]
    by_cases hk : i = k
    · subst hk
      have e : insI f i (i : Int) = true := by simp [insI]
      rw [cnt_ins_ge f i i (Nat.le_refl _), e, hf]
      simp
    · have e : insI f i (k : Int) = f (k : Int) := by
        unfold insI
        rw [decide_eq_false (by omega), Bool.false_or]
      rw [cnt_ins f i hf k (by omega), e]
      omega
def srchL (A : Option Addr) (n c : Nat) (nm : ByteArray) (gf ga : Nat) (tg : TG) (who : ByteArray) (fd : Bool) : List Value :=
  .slice A n c :: .string nm :: .map (some gf) :: .map (some ga) :: (RowC.enc tg ++ [Value.string who, Value.bool fd])
section
variable {A : Option Addr} {n c gf ga : Nat} {nm who : ByteArray} {tg : TG} {fd : Bool}
theorem enc37 (t : TG) : (RowC.enc t).length = 37 := RowC.len t
theorem srch_len : (srchL A n c nm gf ga tg who fd).length = 43 := by simp [srchL, enc37]
theorem srch_who : nth (srchL A n c nm gf ga tg who fd).toArray.toList 41 = some (.string who) := by
  have h := nth_app (RowC.enc tg) [Value.string who, Value.bool fd] 0
  rw [enc37] at h
  exact h
theorem srch_fd : nth (srchL A n c nm gf ga tg who fd).toArray.toList 42 = some (.bool fd) := by
  have h := nth_app (RowC.enc tg) [Value.string who, Value.bool fd] 1
  rw [enc37] at h
  exact h
theorem srch_row : ((srchL A n c nm gf ga tg who fd).drop 4).take 37 = RowC.enc tg := by
  show (RowC.enc tg ++ [Value.string who, Value.bool fd]).take 37 = _
  rw [← enc37 tg, List.take_left]
theorem srch_putT (g : TG) : (srchL A n c nm gf ga tg who fd).take 4 ++ RowC.enc g ++ (srchL A n c nm gf ga tg who fd).drop (4 + 37) = srchL A n c nm gf ga g who fd := by
  have h : (srchL A n c nm gf ga tg who fd).drop (4 + 37) = [Value.string who, Value.bool fd] := by
    show (RowC.enc tg ++ [Value.string who, Value.bool fd]).drop 37 = _
    rw [← enc37 tg, List.drop_left]
  rw [h]
  rfl
theorem srch_putW (s : ByteArray) : (srchL A n c nm gf ga tg who fd).toArray.setIfInBounds 41 (.string s) = (srchL A n c nm gf ga tg s fd).toArray := by
  apply Array.ext'
  rw [Array.toList_setIfInBounds]
  show (Value.slice A n c :: .string nm :: .map (some gf) :: .map (some ga) :: (RowC.enc tg ++ [Value.string who, Value.bool fd])).set 41 (.string s) = _
  simp only [List.set_cons_succ]
  rw [List.set_append, if_neg (by rw [enc37]; omega), enc37]
  rfl
theorem srch_putF (b : Bool) : (srchL A n c nm gf ga tg who fd).toArray.setIfInBounds 42 (.bool b) = (srchL A n c nm gf ga tg who b).toArray := by
  apply Array.ext'
  rw [Array.toList_setIfInBounds]
  show (Value.slice A n c :: .string nm :: .map (some gf) :: .map (some ga) :: (RowC.enc tg ++ [Value.string who, Value.bool fd])).set 42 (.bool b) = _
  simp only [List.set_cons_succ]
  rw [List.set_append, if_neg (by rw [enc37]; omega), enc37]
  rfl
end
theorem HR.ofBlkL {w : World} {z : Nat} {t : TypeId} {cs : Array Value} (h : HB w z t cs) : HR w (some ⟨z, 0, none⟩) cs.toList := ⟨fun k u hk => by
  refine ⟨_, rfl, ?_⟩
  rw [add_row, h.out.cell k]
  simpa using hk⟩
section
variable {P : Program} {ops : Array Oper} {rest : List Oper} {a : Act} {w : World} {Q : Exit → Act → World → Prop} {dst : Option Tmp} {ty : TypeId} {pos : String} {after : Array Edge} {gd : Option (Nat × Bool)}
variable {A : Option Addr} {n c gf ga : Nat} {nm who : ByteArray} {tg : TG} {fd : Bool}
theorem ev_loadS {t : TypeId} {x : Operand} {g : Nat} (hx : a.eval x = .pointer (some ⟨g, 4, none⟩)) {tb : TypeId} (hb : HB w g tb (srchL A n c nm gf ga tg who fd).toArray) (ht : RowT P t 37) :
    (execOp a.eval ⟨dst, .load t x, ty, pos, after, gd⟩).run P w = .ok (.value (.agg (RowC.enc tg).toArray)) w := by
  have hr := HR.ofBlkL hb
  have hp : ptrOf (some ⟨g, 0, none⟩) 4 = .pointer (some ⟨g, 4, none⟩) := by rw [ptrOf, shift_some, add_row]
  show ((Instr.loadAt t (a.eval x)) >>= fun v => pure (Next.value v)).run P w = _
  rw [hx, ← hp, Sem.run_bind, run_loadshift (k := 4) (cs := RowC.enc tg) hr.out ht (enc37 tg) srch_row (by decide)]
  rfl
theorem wpl_loadS {t : TypeId} {x : Operand} {g : Nat} (hx : a.eval x = .pointer (some ⟨g, 4, none⟩)) {tb : TypeId} (hb : HB w g tb (srchL A n c nm gf ga tg who fd).toArray) (ht : RowT P t 37)
    (h : wpList P ops Q rest (a.put dst (.agg (RowC.enc tg).toArray)) w) : wpList P ops Q (⟨dst, .load t x, ty, pos, after, none⟩ :: rest) a w := wpl_of_run rfl (ev_loadS hx hb ht) h
theorem wpl_storeWho {t : TypeId} {x y : Operand} {g : Nat} {s : ByteArray} (hx : a.eval x = .pointer (some ⟨g, 41, none⟩)) (hy : a.eval y = .string s) {tb : TypeId} (hb : HB w g tb (srchL A n c nm gf ga tg who fd).toArray) (ht : CellT P t)
    (h : ∀ w', Step (only g) w w' → HB w' g tb (srchL A n c nm gf ga tg s fd).toArray → wpList P ops Q rest (a.put dst undef) w') : wpList P ops Q (⟨dst, .store t x y, ty, pos, after, none⟩ :: rest) a w :=
  wpl_storecell hx hy hb rfl (by show 41 < (srchL A n c nm gf ga tg who fd).length; rw [srch_len]; decide) (fun w' s' hb' => h w' s' (by rw [← srch_putW]; exact hb'))
theorem wpl_storeFd {t : TypeId} {x y : Operand} {g : Nat} {b : Bool} (hx : a.eval x = .pointer (some ⟨g, 42, none⟩)) (hy : a.eval y = .bool b) {tb : TypeId} (hb : HB w g tb (srchL A n c nm gf ga tg who fd).toArray) (ht : CellT P t)
    (h : ∀ w', Step (only g) w w' → HB w' g tb (srchL A n c nm gf ga tg who b).toArray → wpList P ops Q rest (a.put dst undef) w') : wpList P ops Q (⟨dst, .store t x y, ty, pos, after, none⟩ :: rest) a w :=
  wpl_storecell hx hy hb rfl (by show 42 < (srchL A n c nm gf ga tg who fd).length; rw [srch_len]; decide) (fun w' s' hb' => h w' s' (by rw [← srch_putF]; exact hb'))
theorem wpl_storeS {t : TypeId} {x y : Operand} {g : Nat} {g2 : TG} (hx : a.eval x = .pointer (some ⟨g, 4, none⟩)) (hy : a.eval y = .agg (RowC.enc g2).toArray) {tb : TypeId} (hb : HB w g tb (srchL A n c nm gf ga tg who fd).toArray) (ht : RowT P t 37)
    (h : ∀ w', Step (only g) w w' → HB w' g tb (srchL A n c nm gf ga g2 who fd).toArray → wpList P ops Q rest (a.put dst undef) w') : wpList P ops Q (⟨dst, .store t x y, ty, pos, after, none⟩ :: rest) a w := by
  have ho : Own w tb 1 (some ⟨g, 0, none⟩) 43 43 (srchL A n c nm gf ga tg who fd) :=
    Own.of_blk hb.out (Nat.le_refl _) (by decide) (by show (srchL A n c nm gf ga tg who fd).length = _; rw [srch_len]) (by show (srchL A n c nm gf ga tg who fd).take 43 = _; rw [List.take_of_length_le (by rw [srch_len]; decide)])
  obtain ⟨g', hA, h1, h2, h3⟩ := own_setCells ho (k := 4) (cs := RowC.enc g2) (m := 37) (enc37 g2) (by rw [srch_len]; decide) (by decide)
  obtain rfl : g' = g := by injection hA with hA; injection hA with hA; exact hA.symm
  refine wpl_of_unit rfl (w' := w.setCells g' 4 (RowC.enc g2)) ?_ (h _ ⟨⟨h3.os, h3.tape, h3.output, h3.size, fun x hx hn => h3.block x hx (fun ⟨ad, e, e2⟩ => hn (by injection e with e; subst e; exact e2.symm))⟩⟩ ⟨?_⟩)
  · show ((Instr.storeAt t (a.eval x) (a.eval y)) >>= fun _ => pure Next.skip).run P w = _
    rw [hx, hy, Sem.run_bind, run_storeAt_mid (P := P) w g' 4 t (RowC.enc g2).toArray (by rw [enc_sz g2 rfl]; exact h1) (by rw [enc_sz g2 rfl]; exact ht.size) (enc_one g2)]
    rfl
  · rw [srch_putT] at h2
    rcases h2.form with ⟨hn, _⟩ | ⟨g3, cur, e, hb2, _, _, hsz, htk⟩
    · cases hn
    · injection e with e
      injection e with e
      subst e
      have : cur = (srchL A n c nm gf ga g2 who fd).toArray := by
        apply Array.ext'
        rw [List.take_of_length_le (by rw [Array.length_toList, hsz]; decide)] at htk
        simpa using htk
      rw [← this]
      exact hb2
end
end Go.Proofs.Ytojbbmgghhmgmaa
