/- KyD, QmA -/
import Derived.Test.YthcleccofccbdaaGreatTbKyC
import Derived.Test.YthcleccofccbdaaGreatTbOtQ
import Derived.Test.YthcleccofccbdaaGreatTbMapH
import Derived.Test.YthcleccofccbdaaGreatTbRowE
section
open Go Go.RowKit
namespace Go.Proofs.YthcleccofccbdaaGreat
def verifyS (pub : H32) (m : List UInt8) (leaf : Int) (l p : List H32) : Bool := isS leaf l.length p.length && decide (nameS (upL (recoverS m l) leaf.toNat p) = pub)
set_option maxRecDepth 100000 in
set_option maxHeartbeats 1600000 in
theorem verifyW_calls {A B C : Option Addr} {n c nl cl np cp : Nat} {m : List UInt8} {l p : List H32} (pub : H32) (leaf : Int) {w : World} [HR w A (bs m)] [HR w B (cellsOf l)] [HR w C (cellsOf p)] (hm : m.length = n) (hc : n ≤ c) (hn : n ≤ 140737488351232) (hl : l.length = nl) (hp : p.length = np) :
    Calls Tryz.prog 198 #[.agg (u8s pub.l), .slice A n c, .agg #[.int .i64 leaf, .slice B nl cl, .slice C np cp]] w fun e w' => e = .returned (.bool (verifyS pub m leaf l p)) ∧ Step nowhere w w' := by
  cases hi : isS leaf nl np with
  | false =>
    have hs : verifyS pub m leaf l p = false := by rw [verifyS, hl, hp, hi]; rfl
    rw [hs]
    have HI := Lib.hid hi
    clear hs hi
    go_enter Tryz.func198, Tryz.ntmps198
    go_wp2_with (first | ((with_reducible apply (wpl_box_agg (dst := some 3))); (exact rfl); intro zp wzp _ _ _) | ((with_reducible apply (wpl_box_agg (dst := some 5))); (exact rfl); intro zs wzs _ _ _) | ((with_reducible apply wpl_loadrow); (exact rfl); infer_instance; infer_instance; (first | (with_reducible assumption) | (with_reducible exact H32.size _) | kernel_rfl)))
    refine (is_calls _).mono ?_
    rw [HI.out]
    rintro e w1 ⟨rfl, _⟩
    go_wp2_with fail
    go_ret
    exact ⟨rfl, stepN⟩
  | true =>
    have hi' := hi
    simp only [isS, Bool.and_eq_true, decide_eq_true_eq] at hi'
    obtain ⟨⟨⟨h0, h1⟩, rfl⟩, rfl⟩ := hi'
    obtain ⟨i, rfl⟩ : ∃ i : Nat, leaf = (i : Int) := ⟨leaf.toNat, by omega⟩
    obtain ⟨H, hH⟩ : ∃ H, H = recoverS m l := ⟨_, rfl⟩
    obtain ⟨U, hU⟩ : ∃ U, U = upL H i p := ⟨_, rfl⟩
    obtain ⟨N, hN⟩ : ∃ N, N = nameS U := ⟨_, rfl⟩
    have hs : verifyS pub m (i : Int) l p = decide (N = pub) := by rw [verifyS, hl, hp, hi, hN, hU, hH]; rfl
    rw [hs]
    have HI := Lib.hid hi
    have HH := Lib.hid hH
    have HU := Lib.hid hU
    have HN := Lib.hid hN
    have heq := eqlH
    clear hs hi hH hU hN
    go_enter Tryz.func198, Tryz.ntmps198
    go_wp2_with (first | ((with_reducible apply (wpl_box_agg (dst := some 3))); (exact rfl); intro zp wzp _ _ _) | ((with_reducible apply (wpl_box_agg (dst := some 5))); (exact rfl); intro zs wzs _ _ _) | ((with_reducible apply wpl_loadrow); (exact rfl); infer_instance; infer_instance; (first | (with_reducible assumption) | (with_reducible exact H32.size _) | kernel_rfl)))
    refine (is_calls _).mono ?_
    rw [HI.out]
    rintro e w1 ⟨rfl, _⟩
    go_wp2_with (first | ((with_reducible apply wpl_loadcellN); (exact rfl); infer_instance; (exact rfl)))
    refine (recoverW_calls hm hc hn hl).mono ?_
    rw [if_pos rfl, decide_eq_true rfl, ← HH.out]
    rintro e w2 ⟨rfl, _⟩
    go_wp2_with (first | ((with_reducible apply (wpl_alloc (dst := some 7))); intro z7 wz7 _ _ _) | ((with_reducible apply wpl_storerow); (exact rfl); (exact rfl); infer_instance; infer_instance; (first | (with_reducible assumption) | (with_reducible exact H32.size _) | kernel_rfl); (first | (with_reducible assumption) | (with_reducible exact H32.size _) | kernel_rfl); (first | (with_reducible exact u8s_one _) | (with_reducible assumption) | kernel_rfl); intro ws _ _))
    refine wp_region_N (nowhere) (by kernel_rfl) (fun wd _ _ => ?_)
    refine' takeH (i := 0) (v := _) rfl (by kernel_rfl) (by kernel_rfl) (by kernel_rfl) (fun _ _ _ h => h) (yields_of (by rfl) (fun w' _ => ?_)) inferInstance ?_
    rotate_left
    · (go_simp; try with_reducible rfl)
    try simp only [Act.put, sA]; try simp only [sB, sC]
    refine' takeH (i := 1) (v := _) rfl (by kernel_rfl) (by kernel_rfl) (by kernel_rfl) (fun _ _ _ h => h) (yields_of (by rfl) (fun w' _ => ?_)) inferInstance ?_
    rotate_left
    · (go_simp; try with_reducible rfl)
    try simp only [Act.put, sA]; try simp only [sB, sC]
    refine' takeH (i := 2) (v := _) rfl (by kernel_rfl) (by kernel_rfl) (by kernel_rfl) (fun _ _ _ h => h) (yields_of (by rfl) (fun w' _ => ?_)) inferInstance ?_
    rotate_left
    · ((with_reducible apply ev_loadrow); (exact rfl); infer_instance; infer_instance; (first | (with_reducible assumption) | (with_reducible exact H32.size _) | kernel_rfl))
    try simp only [Act.put, sA]; try simp only [sB, sC]
    refine' takeH (i := 3) (v := _) rfl (by kernel_rfl) (by kernel_rfl) (by kernel_rfl) (fun _ _ _ h => h) (yields_of (by rfl) (fun w' _ => ?_)) inferInstance ?_
    rotate_left
    · (go_simp; try with_reducible rfl)
    try simp only [Act.put, sA]; try simp only [sB, sC]
    refine' takeH (i := 4) (v := _) rfl (by kernel_rfl) (by kernel_rfl) (by kernel_rfl) (fun _ _ _ h => h) (yields_of (by rfl) (fun w' _ => ?_)) inferInstance ?_
    rotate_left
    · ((with_reducible apply ev_loadcellN); (exact rfl); infer_instance; infer_instance; (exact rfl))
    try simp only [Act.put, sA]; try simp only [sB, sC]
    refine' takeH (i := 5) (v := _) rfl (by kernel_rfl) (by kernel_rfl) (by kernel_rfl) (fun _ _ _ h => h) (yields_of (by rfl) (fun w' _ => ?_)) inferInstance ?_
    rotate_left
    · (go_simp; try with_reducible rfl)
    try simp only [Act.put, sA]; try simp only [sB, sC]
    refine' takeH (i := 6) (v := _) rfl (by kernel_rfl) (by kernel_rfl) (by kernel_rfl) (fun _ _ _ h => h) (yields_of (by rfl) (fun w' _ => ?_)) inferInstance ?_
    rotate_left
    · ((with_reducible apply ev_loadcellN); (exact rfl); infer_instance; infer_instance; (exact rfl))
    try simp only [Act.put, sA]; try simp only [sB, sC]
    refine' takeH (i := 9) (v := _) rfl (by kernel_rfl) (by kernel_rfl) (by kernel_rfl) (fun _ _ _ h => h) (yields_of (by rfl) (fun w' _ => ?_)) inferInstance ?_
    rotate_left
    · ((with_reducible apply ev_loadrow); (exact rfl); infer_instance; infer_instance; (first | (with_reducible assumption) | (with_reducible exact H32.size _) | kernel_rfl))
    try simp only [Act.put, sA]; try simp only [sB, sC]
    refine goH (i := 7) (by kernel_rfl) rfl (fun K_ hK_ => ?_)
    go_simp
    refine (upC H i hp (by decide) (by omega)).mono ?_
    rw [← HU.out]
    rintro e w5 ⟨rfl, _⟩
    refine hK_.out _ _ inferInstance (fun _ => ?_)
    clear hK_ K_
    try simp only [Act.put, sA]; try simp only [sB, sC]
    refine goH (i := 8) (by kernel_rfl) rfl (fun K_ hK_ => ?_)
    go_simp
    refine (name_calls U _).mono ?_
    rw [← HN.out]
    rintro e w6 ⟨rfl, _⟩
    refine hK_.out _ _ inferInstance (fun _ => ?_)
    clear hK_ K_
    try simp only [Act.put, sA]; try simp only [sB, sC]
    refine' takeH (i := 10) (v := _) rfl (by kernel_rfl) (by kernel_rfl) (by kernel_rfl) (fun _ _ _ h => h) (yields_of (by rfl) (fun w' _ => ?_)) inferInstance ?_
    rotate_left
    · (go_simp; try with_reducible rfl)
    try simp only [Act.put, sA]; try simp only [sB, sC]
    refine' takeH (i := 11) (v := _) rfl (by kernel_rfl) (by kernel_rfl) (by kernel_rfl) (fun _ _ _ h => h) (yields_of (by rfl) (fun w' _ => ?_)) inferInstance ?_
    rotate_left
    · (go_simp; try with_reducible rfl)
    try simp only [Act.put, sA]; try simp only [sB, sC]
    refine' takeH (i := 12) (v := _) rfl (by kernel_rfl) (by kernel_rfl) (by kernel_rfl) (fun _ _ _ h => h) (yields_of (by rfl) (fun w' _ => ?_)) inferInstance ?_
    rotate_left
    · (go_simp; try with_reducible rfl)
    try simp only [Act.put, sA]; try simp only [sB, sC]
    refine wpAnyH_done (by kernel_rfl) ?_ _
    go_wp2_with fail
    go_ret
    exact ⟨rfl, stepN⟩
set_option maxRecDepth 100000 in
set_option maxHeartbeats 1600000 in
theorem rverifyW_calls {A B C : Option Addr} {n c nl cl np cp : Nat} {m : List UInt8} {l p : List H32} (pub : H32) (leaf : Int) {w : World} [HR w A (bs m)] [HR w B (cellsOf l)] [HR w C (cellsOf p)] (hm : m.length = n) (hn : n ≤ 140737488351232) (hl : l.length = nl) (hp : p.length = np) :
    Calls Tryz.prog 192 #[.agg (u8s pub.l), .slice A n c, .agg #[.int .i64 leaf, .slice B nl cl, .slice C np cp]] w fun e w' => e = .returned (.bool (verifyS pub m leaf l p)) ∧ Step nowhere w w' := by
  cases hi : isS leaf nl np with
  | false =>
    have hs : verifyS pub m leaf l p = false := by rw [verifyS, hl, hp, hi]; rfl
    rw [hs]
    have HI := Lib.hid hi
    clear hs hi
    go_enter Tryz.func192, Tryz.ntmps192
    go_wp2_with (first | ((with_reducible apply (wpl_box_agg (dst := some 3))); (exact rfl); intro zp wzp _ _ _) | ((with_reducible apply (wpl_box_agg (dst := some 5))); (exact rfl); intro zs wzs _ _ _) | ((with_reducible apply wpl_loadrow); (exact rfl); infer_instance; infer_instance; (first | (with_reducible assumption) | (with_reducible exact H32.size _) | kernel_rfl)))
    refine (ris_calls _).mono ?_
    rw [HI.out]
    rintro e w1 ⟨rfl, _⟩
    go_wp2_with fail
    go_ret
    exact ⟨rfl, stepN⟩
  | true =>
    have hi' := hi
    simp only [isS, Bool.and_eq_true, decide_eq_true_eq] at hi'
    obtain ⟨⟨⟨h0, h1⟩, rfl⟩, rfl⟩ := hi'
    obtain ⟨i, rfl⟩ : ∃ i : Nat, leaf = (i : Int) := ⟨leaf.toNat, by omega⟩
    obtain ⟨H, hH⟩ : ∃ H, H = recoverS m l := ⟨_, rfl⟩
    obtain ⟨U, hU⟩ : ∃ U, U = upL H i p := ⟨_, rfl⟩
    obtain ⟨N, hN⟩ : ∃ N, N = nameS U := ⟨_, rfl⟩
    have hs : verifyS pub m (i : Int) l p = decide (N = pub) := by rw [verifyS, hl, hp, hi, hN, hU, hH]; rfl
    rw [hs]
    have HI := Lib.hid hi
    have HH := Lib.hid hH
    have HU := Lib.hid hU
    have HN := Lib.hid hN
    have heq := eqlH
    clear hs hi hH hU hN
    go_enter Tryz.func192, Tryz.ntmps192
    go_wp2_with (first | ((with_reducible apply (wpl_box_agg (dst := some 3))); (exact rfl); intro zp wzp _ _ _) | ((with_reducible apply (wpl_box_agg (dst := some 5))); (exact rfl); intro zs wzs _ _ _) | ((with_reducible apply wpl_loadrow); (exact rfl); infer_instance; infer_instance; (first | (with_reducible assumption) | (with_reducible exact H32.size _) | kernel_rfl)))
    refine (ris_calls _).mono ?_
    rw [HI.out]
    rintro e w1 ⟨rfl, _⟩
    go_wp2_with (first | ((with_reducible apply wpl_loadcellN); (exact rfl); infer_instance; (exact rfl)))
    refine (rrecoverW_calls hm hn hl).mono ?_
    rw [if_pos rfl, decide_eq_true rfl, ← HH.out]
    rintro e w2 ⟨rfl, _⟩
    go_wp2_with (first | ((with_reducible apply (wpl_alloc (dst := some 7))); intro z7 wz7 _ _ _) | ((with_reducible apply wpl_storerow); (exact rfl); (exact rfl); infer_instance; infer_instance; (first | (with_reducible assumption) | (with_reducible exact H32.size _) | kernel_rfl); (first | (with_reducible assumption) | (with_reducible exact H32.size _) | kernel_rfl); (first | (with_reducible exact u8s_one _) | (with_reducible assumption) | kernel_rfl); intro ws _ _))
    refine wp_region_N (nowhere) (by kernel_rfl) (fun wd _ _ => ?_)
    refine' takeH (i := 0) (v := _) rfl (by kernel_rfl) (by kernel_rfl) (by kernel_rfl) (fun _ _ _ h => h) (yields_of (by rfl) (fun w' _ => ?_)) inferInstance ?_
    rotate_left
    · ((with_reducible apply ev_loadrow); (exact rfl); infer_instance; infer_instance; (first | (with_reducible assumption) | (with_reducible exact H32.size _) | kernel_rfl))
    try simp only [Act.put, sA]; try simp only [sB, sC]
    refine' takeH (i := 1) (v := _) rfl (by kernel_rfl) (by kernel_rfl) (by kernel_rfl) (fun _ _ _ h => h) (yields_of (by rfl) (fun w' _ => ?_)) inferInstance ?_
    rotate_left
    · (go_simp; try with_reducible rfl)
    try simp only [Act.put, sA]; try simp only [sB, sC]
    refine' takeH (i := 2) (v := _) rfl (by kernel_rfl) (by kernel_rfl) (by kernel_rfl) (fun _ _ _ h => h) (yields_of (by rfl) (fun w' _ => ?_)) inferInstance ?_
    rotate_left
    · ((with_reducible apply ev_loadcellN); (exact rfl); infer_instance; infer_instance; (exact rfl))
    try simp only [Act.put, sA]; try simp only [sB, sC]
    refine' takeH (i := 3) (v := _) rfl (by kernel_rfl) (by kernel_rfl) (by kernel_rfl) (fun _ _ _ h => h) (yields_of (by rfl) (fun w' _ => ?_)) inferInstance ?_
    rotate_left
    · (go_simp; try with_reducible rfl)
    try simp only [Act.put, sA]; try simp only [sB, sC]
    refine' takeH (i := 4) (v := _) rfl (by kernel_rfl) (by kernel_rfl) (by kernel_rfl) (fun _ _ _ h => h) (yields_of (by rfl) (fun w' _ => ?_)) inferInstance ?_
    rotate_left
    · ((with_reducible apply ev_loadcellN); (exact rfl); infer_instance; infer_instance; (exact rfl))
    try simp only [Act.put, sA]; try simp only [sB, sC]
    refine' takeH (i := 7) (v := _) rfl (by kernel_rfl) (by kernel_rfl) (by kernel_rfl) (fun _ _ _ h => h) (yields_of (by rfl) (fun w' _ => ?_)) inferInstance ?_
    rotate_left
    · ((with_reducible apply ev_loadrow); (exact rfl); infer_instance; infer_instance; (first | (with_reducible assumption) | (with_reducible exact H32.size _) | kernel_rfl))
    try simp only [Act.put, sA]; try simp only [sB, sC]
    refine goH (i := 5) (by kernel_rfl) rfl (fun K_ hK_ => ?_)
    go_simp
    refine (rupC H i hp (by decide) (by omega)).mono ?_
    rw [← HU.out]
    rintro e w5 ⟨rfl, _⟩
    refine hK_.out _ _ inferInstance (fun _ => ?_)
    clear hK_ K_
    try simp only [Act.put, sA]; try simp only [sB, sC]
    refine goH (i := 6) (by kernel_rfl) rfl (fun K_ hK_ => ?_)
    go_simp
    refine (rname_calls U _).mono ?_
    rw [← HN.out]
    rintro e w6 ⟨rfl, _⟩
    refine hK_.out _ _ inferInstance (fun _ => ?_)
    clear hK_ K_
    try simp only [Act.put, sA]; try simp only [sB, sC]
    refine' takeH (i := 8) (v := _) rfl (by kernel_rfl) (by kernel_rfl) (by kernel_rfl) (fun _ _ _ h => h) (yields_of (by rfl) (fun w' _ => ?_)) inferInstance ?_
    rotate_left
    · (go_simp; try with_reducible rfl)
    try simp only [Act.put, sA]; try simp only [sB, sC]
    refine' takeH (i := 9) (v := _) rfl (by kernel_rfl) (by kernel_rfl) (by kernel_rfl) (fun _ _ _ h => h) (yields_of (by rfl) (fun w' _ => ?_)) inferInstance ?_
    rotate_left
    · (go_simp; try with_reducible rfl)
    try simp only [Act.put, sA]; try simp only [sB, sC]
    refine wpAnyH_done (by kernel_rfl) ?_ _
    go_wp2_with fail
    go_ret
    exact ⟨rfl, stepN⟩
end Go.Proofs.YthcleccofccbdaaGreat
end
section
open Go Go.RowKit
namespace Go.Proofs.YthcleccofccbdaaGreat
/-- a mark, and what its two rows hold -/
structure MarkR where
  key : H32
  leaf : Int
  A : Option Addr
  c : Nat
  l : List H32
  B : Option Addr
  k : Nat
  p : List H32
def MarkR.sig (r : MarkR) : List Value := [.int .i64 r.leaf, .slice r.A r.l.length r.c, .slice r.B r.p.length r.k]
instance iQmA_1 : RowC MarkR := ⟨35, fun r => bs r.key.l ++ r.sig, fun r => by simp [MarkR.sig, bs_length], fun r u hu => by
  rcases List.mem_append.1 hu with h | h
  · exact bs_one r.key.l u h
  · simp only [MarkR.sig, List.mem_cons, List.not_mem_nil, or_false] at h
    rcases h with rfl | rfl | rfl <;> rfl, ⟨zeroH, 0, none, 0, [], none, 0, []⟩⟩
theorem mark_key (r : MarkR) : ((RowC.enc r).drop 0).take 32 = bs r.key.l := by
  show (bs r.key.l ++ r.sig).take 32 = _
  rw [List.take_left' (by rw [bs_length, r.key.len])]
theorem mark_sig (r : MarkR) : ((RowC.enc r).drop 32).take 3 = [.int .i64 r.leaf, .slice r.A r.l.length r.c, .slice r.B r.p.length r.k] := by
  show ((bs r.key.l ++ r.sig).drop 32).take 3 = _
  rw [List.drop_left' (by rw [bs_length, r.key.len])]
  rfl
/-- the rows of a mark, as they stand in this world -/
def MarkIn (w : World) (r : MarkR) : Prop := Rd w r.A (cellsOf r.l) ∧ Rd w r.B (cellsOf r.p)
theorem MarkIn.nw {w0 w : World} [n : Nw w0 w] {r : MarkR} (h : MarkIn w0 r) : MarkIn w r := ⟨h.1.chg n.out (fun _ _ _ h => h), h.2.chg n.out (fun _ _ _ h => h)⟩
instance iQmA_2 : ElemT Tryz.prog 131 137 35 88 (.agg (u8s zeroH.l ++ #[.int .i64 0, .slice none 0 0, .slice none 0 0])) := ⟨⟨Tryz.underlying131, by kernel_rfl, rfl, by decide⟩⟩
instance iQmA_3 : RowT Tryz.prog 137 35 := ⟨by kernel_rfl, _, Tryz.underlying137, rfl⟩
instance iQmA_4 : RowT Tryz.prog 133 2 := ⟨by kernel_rfl, _, Tryz.underlying133, rfl⟩
instance iQmA_5 : RowT Tryz.prog 42 2 := ⟨by kernel_rfl, _, Tryz.underlying42, rfl⟩
instance iQmA_6 : CellT Tryz.prog 26 := ⟨fun _ => by kernel_rfl, fun _ => by kernel_rfl⟩
instance iQmA_7 : CellT Tryz.prog 131 := ⟨fun _ => by kernel_rfl, fun _ => by kernel_rfl⟩
/-- a mark tells that a key has signed bytes -/
def signsB (m : List UInt8) (h : H32) (r : MarkR) : Bool := decide (r.key = h) && verifyS h m r.leaf r.l r.p
/-- those that signed, of the first keys -/
def whoN (m : List UInt8) (l : List MarkR) (ks : List H32) : Nat → List H32
  | 0 => []
  | k + 1 => whoN m l ks k ++ (if hget ks k ∈ ks.take k then [] else if (l.take 4).any (signsB m (hget ks k)) then [hget ks k] else [])
section
variable {P : Program} {ops : Array Oper} {rest : List Oper} {a : Act} {w : World} {Q : Exit → Act → World → Prop} {dst : Option Tmp} {ty : TypeId} {pos : String} {after : Array Edge} {gd : Option (Nat × Bool)}
/-- a part of an element, whole -/
theorem ev_loadEP {α : Type} [RowC α] {t : TypeId} {x : Operand} {A : Option Addr} {k j s n : Nat} (ht : RowT P t n) (hx : a.eval x = ptrOf A (k * s + j)) {l : List α} (hr : HR w A (cellsOf l)) (hs : RowC.size α = s) (hn : 0 < n) (hk : k < l.length) {vs : List Value} (hv : ((RowC.enc (gt l k)).drop j).take n = vs) (hl : vs.length = n) :
    (execOp a.eval ⟨dst, .load t x, ty, pos, after, gd⟩).run P w = .ok (.value (.agg vs.toArray)) w := by
  show ((Instr.loadAt t (a.eval x)) >>= fun v => pure (Next.value v)).run P w = _
  subst hs
  have hlen : j + n ≤ RowC.size α := by
    have h1 := congrArg List.length hv
    rw [List.length_take, List.length_drop, RowC.len, hl] at h1
    omega
  have hc : ((cellsOf l).drop (k * RowC.size α + j)).take n = vs := by
    have h2 := cellsOf_at l k hk
    have h3 : (((cellsOf l).drop (k * RowC.size α)).drop j).take n = (((((cellsOf l).drop (k * RowC.size α)).take (RowC.size α))).drop j).take n := by
      rw [List.drop_take, List.take_take, Nat.min_eq_left (by omega)]
    rw [← List.drop_drop, h3, h2]
    exact hv
  rw [hx, Sem.run_bind, run_loadshift (k := k * RowC.size α + j) (cs := vs) hr.out ht hl hc hn]
  rfl
/-- a part of a block, whole -/
theorem ev_loadpart {t : TypeId} {x : Operand} {g k n : Nat} (hx : a.eval x = .pointer (some ⟨g, k, none⟩)) {tb : TypeId} {cs : Array Value} (hb : HB w g tb cs) (ht : RowT P t n) (hn : 0 < n) {vs : List Value} (hv : (cs.toList.drop k).take n = vs) (hl : vs.length = n) :
    (execOp a.eval ⟨dst, .load t x, ty, pos, after, gd⟩).run P w = .ok (.value (.agg vs.toArray)) w := by
  show ((Instr.loadAt t (a.eval x)) >>= fun v => pure (Next.value v)).run P w = _
  have e : a.eval x = ptrOf (some ⟨g, 0, none⟩) k := by
    rw [hx]
    simp [ptrOf, shift, add_row]
  rw [e, Sem.run_bind, run_loadshift (k := k) (cs := vs) (HR.ofBlkL hb).out ht hl hv hn]
  rfl
theorem wpl_loadpart {t : TypeId} {x : Operand} {g k n : Nat} (hx : a.eval x = .pointer (some ⟨g, k, none⟩)) {tb : TypeId} {cs : Array Value} (hb : HB w g tb cs) (ht : RowT P t n) (hn : 0 < n) {vs : List Value} (hv : (cs.toList.drop k).take n = vs) (hl : vs.length = n)
    (h : wpList P ops Q rest (a.put dst (.agg vs.toArray)) w) : wpList P ops Q (⟨dst, .load t x, ty, pos, after, none⟩ :: rest) a w := wpl_of_run rfl (ev_loadpart hx hb ht hn hv hl) h
theorem ev_loadEPH {α : Type} [RowC α] {t : TypeId} {x : Operand} {A : Option Addr} {k j s : Nat} (ht : RowT P t 32) (hx : a.eval x = ptrOf A (k * s + j)) {l : List α} (hr : HR w A (cellsOf l)) (hs : RowC.size α = s) (hk : k < l.length) {hh : H32} (hv : ((RowC.enc (gt l k)).drop j).take 32 = bs hh.l) :
    (execOp a.eval ⟨dst, .load t x, ty, pos, after, gd⟩).run P w = .ok (.value (.agg (u8s hh.l))) w := ev_loadEP ht hx hr hs (by decide) hk hv (by rw [bs_length, hh.len])
theorem wpl_loadpartH {t : TypeId} {x : Operand} {g k : Nat} (hx : a.eval x = .pointer (some ⟨g, k, none⟩)) {tb : TypeId} {cs : Array Value} (hb : HB w g tb cs) (ht : RowT P t 32) {hh : H32} (hv : (cs.toList.drop k).take 32 = bs hh.l)
    (h : wpList P ops Q rest (a.put dst (.agg (u8s hh.l))) w) : wpList P ops Q (⟨dst, .load t x, ty, pos, after, none⟩ :: rest) a w := wpl_loadpart hx hb ht (by decide) hv (by rw [bs_length, hh.len]) h
end
theorem verifyM_calls {M : Option Addr} {nb cb : Nat} {m : List UInt8} (pub : H32) (r : MarkR) (w0 : World) {w : World} [n : Nw w0 w] [hM : HR w M (bs m)] (hr : MarkIn w0 r) (hm : m.length = nb) (hc : nb ≤ cb) (hn : nb ≤ 140737488351232) :
    Calls Tryz.prog 198 #[.agg (u8s pub.l), .slice M nb cb, .agg #[.int .i64 r.leaf, .slice r.A r.l.length r.c, .slice r.B r.p.length r.k]] w fun e w' => e = .returned (.bool (verifyS pub m r.leaf r.l r.p)) ∧ Step nowhere w w' := by
  have h1 : HR w r.A (cellsOf r.l) := ⟨(MarkIn.nw (w := w) hr).1⟩
  have h2 : HR w r.B (cellsOf r.p) := ⟨(MarkIn.nw (w := w) hr).2⟩
  exact verifyW_calls pub r.leaf hm hc hn rfl rfl
theorem rverifyM_calls {M : Option Addr} {nb cb : Nat} {m : List UInt8} (pub : H32) (r : MarkR) (w0 : World) {w : World} [n : Nw w0 w] [hM : HR w M (bs m)] (hr : MarkIn w0 r) (hm : m.length = nb) (hn : nb ≤ 140737488351232) :
    Calls Tryz.prog 192 #[.agg (u8s pub.l), .slice M nb cb, .agg #[.int .i64 r.leaf, .slice r.A r.l.length r.c, .slice r.B r.p.length r.k]] w fun e w' => e = .returned (.bool (verifyS pub m r.leaf r.l r.p)) ∧ Step nowhere w w' := by
  have h1 : HR w r.A (cellsOf r.l) := ⟨(MarkIn.nw (w := w) hr).1⟩
  have h2 : HR w r.B (cellsOf r.p) := ⟨(MarkIn.nw (w := w) hr).2⟩
  exact rverifyW_calls pub r.leaf hm hn rfl rfl
end Go.Proofs.YthcleccofccbdaaGreat
end
