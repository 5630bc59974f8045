/- KyF -/
import Derived.Test.YtmnapacibpnodaaGreatUeRpN
open Go Go.RowKit
namespace Go.Proofs.YtmnapacibpnodaaGreat
def refL (seed : H32) (A : Option Addr) (n c : Nat) (pub : H32) (used : Int) : List Value := bs seed.l ++ (.slice A n c :: (bs pub.l ++ [.int .i64 used]))
section
variable {seed pub : H32} {A : Option Addr} {n c : Nat} {used : Int}
theorem refL_len : (refL seed A n c pub used).length = 66 := by
  rw [refL, List.length_append, bsl, List.length_cons, List.length_append, bsl]
  rfl
theorem ref_L : nth (refL seed A n c pub used).toArray.toList 32 = some (.slice A n c) := by
  have h := nth_app (bs seed.l) (.slice A n c :: (bs pub.l ++ [.int .i64 used])) 0
  rw [bsl] at h
  exact h
theorem ref_N : nth (refL seed A n c pub used).toArray.toList 65 = some (.int .i64 used) := by
  have h := nth_app (bs seed.l) (.slice A n c :: (bs pub.l ++ [.int .i64 used])) 33
  have h2 := nth_app (bs pub.l) [Value.int .i64 used] 0
  rw [bsl] at h h2
  exact h.trans h2
theorem ref_seed : ((refL seed A n c pub used).drop 0).take 32 = bs seed.l := by
  rw [List.drop_zero, refL, List.take_left' (bsl seed)]
theorem ref_pub : ((refL seed A n c pub used).drop 33).take 32 = bs pub.l := by
  have h : (refL seed A n c pub used).drop (32 + 1) = (Value.slice A n c :: (bs pub.l ++ [.int .i64 used])).drop 1 := by
    rw [← List.drop_drop, refL, List.drop_left' (bsl seed)]
  rw [show (33 : Nat) = 32 + 1 from rfl, h]
  show (bs pub.l ++ [Value.int .i64 used]).take 32 = _
  rw [List.take_left' (bsl pub)]
theorem ref_putL (B : Option Addr) (m d : Nat) : (refL seed A n c pub used).toArray.setIfInBounds 32 (.slice B m d) = (refL seed B m d pub used).toArray := by
  apply Array.ext'
  rw [Array.toList_setIfInBounds]
  show (bs seed.l ++ (Value.slice A n c :: (bs pub.l ++ [.int .i64 used]))).set 32 (.slice B m d) = _
  rw [List.set_append, if_neg (by rw [bsl]; omega), bsl]
  rfl
theorem ref_putN (u : Int) : (refL seed A n c pub used).toArray.setIfInBounds 65 (.int .i64 u) = (refL seed A n c pub u).toArray := by
  apply Array.ext'
  rw [Array.toList_setIfInBounds]
  show (bs seed.l ++ (Value.slice A n c :: (bs pub.l ++ [.int .i64 used]))).set 65 (.int .i64 u) = _
  rw [List.set_append, if_neg (by rw [bsl]; omega), bsl]
  show bs seed.l ++ (Value.slice A n c :: (bs pub.l ++ [Value.int .i64 used]).set 32 (.int .i64 u)) = _
  rw [List.set_append, if_neg (by rw [bsl]; omega), bsl]
  rfl
theorem ref_putP (h : H32) : (refL seed A n c pub used).take 33 ++ bs h.l ++ (refL seed A n c pub used).drop (33 + 32) = refL seed A n c h used := by
  have e0 : refL seed A n c pub used = (bs seed.l ++ [.slice A n c]) ++ (bs pub.l ++ [.int .i64 used]) := by simp [refL]
  have e1 : (bs seed.l ++ [Value.slice A n c]).length = 33 := by rw [List.length_append, bsl]; rfl
  rw [e0, List.take_left' e1, ← List.drop_drop, List.drop_left' e1, List.drop_left' (bsl pub)]
  simp [refL]
end
section
variable {P : Program} {ops : Array Oper} {rest : List Oper} {a : Act} {w : World} {Q : Exit → Act → World → Prop} {dst : Option Tmp} {ty : TypeId} {pos : String} {after : Array Edge} {gd : Option (Nat × Bool)}
variable {seed pub : H32} {A : Option Addr} {n c : Nat} {used : Int}
theorem ev_loadRSeed {t : TypeId} {x : Operand} {g : Nat} (hx : a.eval x = .pointer (some ⟨g, 0, none⟩)) {tb : TypeId} (hb : HB w g tb (refL seed A n c pub used).toArray) (ht : RowT P t 32) :
    (execOp a.eval ⟨dst, .load t x, ty, pos, after, gd⟩).run P w = .ok (.value (.agg (u8s seed.l))) w := by
  have hr := HR.ofBlkL hb
  show ((Instr.loadAt t (a.eval x)) >>= fun v => pure (Next.value v)).run P w = _
  rw [hx, ← ptr0, Sem.run_bind, run_loadshift (k := 0) (cs := bs seed.l) hr.out ht (bsl seed) ref_seed (by decide)]
  rfl
theorem ev_loadRL {t : TypeId} {x : Operand} {g : Nat} (hx : a.eval x = .pointer (some ⟨g, 32, none⟩)) {tb : TypeId} (hb : HB w g tb (refL seed A n c pub used).toArray) (ht : CellT P t) :
    (execOp a.eval ⟨dst, .load t x, ty, pos, after, gd⟩).run P w = .ok (.value (.slice A n c)) w := ev_loadcellN hx hb ht ref_L
theorem ev_loadRN {t : TypeId} {x : Operand} {g : Nat} (hx : a.eval x = .pointer (some ⟨g, 65, none⟩)) {tb : TypeId} (hb : HB w g tb (refL seed A n c pub used).toArray) (ht : CellT P t) :
    (execOp a.eval ⟨dst, .load t x, ty, pos, after, gd⟩).run P w = .ok (.value (.int .i64 used)) w := ev_loadcellN hx hb ht ref_N
theorem wpl_rL {t : TypeId} {x : Operand} {g : Nat} (hx : a.eval x = .pointer (some ⟨g, 32, none⟩)) {tb : TypeId} (hb : HB w g tb (refL seed A n c pub used).toArray) (ht : CellT P t)
    (h : wpList P ops Q rest (a.put dst (.slice A n c)) w) : wpList P ops Q (⟨dst, .load t x, ty, pos, after, none⟩ :: rest) a w := wpl_of_run rfl (ev_loadRL hx hb ht) h
theorem wpl_rN {t : TypeId} {x : Operand} {g : Nat} (hx : a.eval x = .pointer (some ⟨g, 65, none⟩)) {tb : TypeId} (hb : HB w g tb (refL seed A n c pub used).toArray) (ht : CellT P t)
    (h : wpList P ops Q rest (a.put dst (.int .i64 used)) w) : wpList P ops Q (⟨dst, .load t x, ty, pos, after, none⟩ :: rest) a w := wpl_of_run rfl (ev_loadRN hx hb ht) h
theorem wpl_rPutL {t : TypeId} {x y : Operand} {g : Nat} {B : Option Addr} {m d : Nat} (hx : a.eval x = .pointer (some ⟨g, 32, none⟩)) (hy : a.eval y = .slice B m d) {tb : TypeId} (hb : HB w g tb (refL seed A n c pub used).toArray) (ht : CellT P t)
    (h : ∀ w', Step (only g) w w' → HB w' g tb (refL seed B m d pub used).toArray → wpList P ops Q rest (a.put dst undef) w') : wpList P ops Q (⟨dst, .store t x y, ty, pos, after, none⟩ :: rest) a w :=
  wpl_storecell hx hy hb rfl (by show 32 < (refL seed A n c pub used).length; rw [refL_len]; decide) (fun w' s hb' => h w' s (by rw [← ref_putL]; exact hb'))
theorem wpl_rPutN {t : TypeId} {x y : Operand} {g : Nat} {u : Int} (hx : a.eval x = .pointer (some ⟨g, 65, none⟩)) (hy : a.eval y = .int .i64 u) {tb : TypeId} (hb : HB w g tb (refL seed A n c pub used).toArray) (ht : CellT P t)
    (h : ∀ w', Step (only g) w w' → HB w' g tb (refL seed A n c pub u).toArray → wpList P ops Q rest (a.put dst undef) w') : wpList P ops Q (⟨dst, .store t x y, ty, pos, after, none⟩ :: rest) a w :=
  wpl_storecell hx hy hb rfl (by show 65 < (refL seed A n c pub used).length; rw [refL_len]; decide) (fun w' s hb' => h w' s (by rw [← ref_putN]; exact hb'))
theorem wpl_rPutP {t : TypeId} {x y : Operand} {g : Nat} {hh : H32} (hx : a.eval x = .pointer (some ⟨g, 33, none⟩)) (hy : a.eval y = .agg (u8s hh.l)) {tb : TypeId} (hb : HB w g tb (refL seed A n c pub used).toArray) (ht : RowT P t 32)
    (h : ∀ w', Step (only g) w w' → HB w' g tb (refL seed A n c hh used).toArray → wpList P ops Q rest (a.put dst undef) w') : wpList P ops Q (⟨dst, .store t x y, ty, pos, after, none⟩ :: rest) a w := by
  have hL := refL_len (seed := seed) (A := A) (n := n) (c := c) (pub := pub) (used := used)
  have ho : Own w tb 66 (some ⟨g, 0, none⟩) 1 1 (refL seed A n c pub used) :=
    Own.of_blk hb.out (Nat.le_refl _) (by decide) (by simp [hL]) (by show (refL seed A n c pub used).take (1 * 66) = _; exact List.take_of_length_le (by rw [hL]; decide))
  obtain ⟨g', hA, h1, h2, h3⟩ := own_setCells ho (k := 33) (cs := bs hh.l) (m := 32) (bsl hh) (by rw [hL]; decide) (by decide)
  obtain rfl : g' = g := by injection hA with hA; injection hA with hA; exact hA.symm
  rw [ref_putP hh] at h2
  refine wpl_of_unit rfl (w' := w.setCells g' 33 (bs hh.l)) ?_ (h _ ⟨⟨h3.os, h3.tape, h3.output, h3.size, fun x hx hn => h3.block x hx (fun ⟨ad, e, e2⟩ => hn (by injection e with e; subst e; exact e2.symm))⟩⟩ ⟨?_⟩)
  · have hz : (u8s hh.l).size = 32 := hh.size
    show ((Instr.storeAt t (a.eval x) (a.eval y)) >>= fun _ => pure Next.skip).run P w = _
    rw [hx, hy, Sem.run_bind, run_storeAt_mid (P := P) w g' 33 t (u8s hh.l) (by rw [hz]; exact h1) (by rw [hz]; exact ht.size) (u8s_one _)]
    rfl
  · have hl2 : (refL seed A n c hh used).length = 66 := refL_len
    rcases h2.form with ⟨hn, _⟩ | ⟨g3, cur, e, hb2, _, _, hsz, htk⟩
    · cases hn
    · injection e with e
      injection e with e
      subst e
      have : cur = (refL seed A n c hh used).toArray := by
        apply Array.ext'
        rw [List.take_of_length_le (by rw [Array.length_toList, hsz]; exact Nat.le_refl _)] at htk
        simpa using htk
      rw [← this]
      exact hb2
end
theorem lay_rseed (s0 seed pub : H32) (A : Option Addr) (n c : Nat) (u : Int) : lay 0 (u8s seed.l) (refL s0 A n c pub u).toArray = (refL seed A n c pub u).toArray := by
  apply Array.ext'
  show (refL s0 A n c pub u).take 0 ++ bs seed.l ++ (refL s0 A n c pub u).drop (0 + (u8s seed.l).size) = refL seed A n c pub u
  rw [show (u8s seed.l).size = 32 from seed.size, Nat.zero_add, refL, List.drop_left' (bsl s0)]
  rfl
theorem lay_rused (seed pub : H32) (A : Option Addr) (n c : Nat) (u u0 : Int) : lay 65 #[.int .i64 u] (refL seed A n c pub u0).toArray = (refL seed A n c pub u).toArray := by
  apply Array.ext'
  have e0 : ∀ u, refL seed A n c pub u = (bs seed.l ++ [.slice A n c] ++ bs pub.l) ++ [.int .i64 u] := fun u => by simp [refL]
  have e1 : (bs seed.l ++ [Value.slice A n c] ++ bs pub.l).length = 65 := by rw [List.length_append, List.length_append, bsl, bsl]; rfl
  show (refL seed A n c pub u0).take 65 ++ [.int .i64 u] ++ (refL seed A n c pub u0).drop (65 + 1) = refL seed A n c pub u
  rw [e0 u0, e0 u, List.take_left' e1, ← List.drop_drop, List.drop_left' e1]
  simp
theorem run_newRef (seed : H32) (u : Int) (w : World) : (Instr.build 33 #[(0, .agg (u8s seed.l)), (3, .int .i64 u)]).run Tryz.prog w = .ok (.agg (refL seed none 0 0 zeroH u).toArray) w := by
  refine run_build_struct Tryz.underlying33 (zv := .agg (refL zeroH none 0 0 zeroH 0).toArray) (fun _ => by kernel_rfl) (places := #[(0, 32), (32, 1), (33, 32), (65, 1)]) (fun _ => by kernel_rfl) ?_ w
  have h1 : (refL zeroH none 0 0 zeroH 0).toArray.size = 66 := by show (refL zeroH none 0 0 zeroH 0).length = _; exact refL_len
  have h2 : (refL seed none 0 0 zeroH 0).toArray.size = 66 := by show (refL seed none 0 0 zeroH 0).length = _; exact refL_len
  show Instr.fill _ (refL zeroH none 0 0 zeroH 0).toArray [(0, .agg (u8s seed.l)), (3, .int .i64 u)] = _
  rw [fill_step _ _ 0 _ _ (off := 0) (size := 32) rfl (by show (u8s seed.l).size = 32; exact seed.size) (by rw [h1]; decide)]
  rw [show lay 0 (Value.agg (u8s seed.l)).cells (refL zeroH none 0 0 zeroH 0).toArray = (refL seed none 0 0 zeroH 0).toArray from lay_rseed zeroH seed zeroH none 0 0 0]
  rw [fill_step _ _ 3 _ _ (off := 65) (size := 1) rfl rfl (by rw [h2]; decide)]
  rw [show lay 65 (Value.int .i64 u).cells (refL seed none 0 0 zeroH 0).toArray = (refL seed none 0 0 zeroH u).toArray from lay_rused seed zeroH none 0 0 u 0]
  rfl
end Go.Proofs.YtmnapacibpnodaaGreat
