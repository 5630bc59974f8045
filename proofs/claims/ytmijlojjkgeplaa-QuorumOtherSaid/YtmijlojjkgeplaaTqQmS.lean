/- QmS -/
import Derived.Test.YtmijlojjkgeplaaTqQmT
import Derived.Test.YtmijlojjkgeplaaTqQmC
import Derived.Test.YtmijlojjkgeplaaTqKyJ
import Derived.Test.YtmijlojjkgeplaaTqQmR
open Go Go.RowKit
namespace Go.Proofs.Ytmijlojjkgeplaa
section
variable {P : Program} {a : Act} {w : World} {dst : Option Tmp} {ty : TypeId} {pos : String} {after : Array Edge} {gd : Option (Nat × Bool)}
theorem ev_loadpartH {t : TypeId} {x : Operand} {g k : Nat} (hx : a.eval x = .pointer (some ⟨g, k, none⟩)) {tb : TypeId} {cs : Array Value} (hb : HB w g tb cs) (ht : RowT P t 32) {hh : H32} (hv : (cs.toList.drop k).take 32 = bs hh.l) :
    (execOp a.eval ⟨dst, .load t x, ty, pos, after, gd⟩).run P w = .ok (.value (.agg (u8s hh.l))) w := ev_loadpart hx hb ht (by decide) hv (by rw [bs_length, hh.len])
end
theorem build_seed (k : Nat) (hk : k < 3) (w : World) : (Instr.build 23 #[(0, .int .u8 (k : Int))]).run Try.prog w = .ok (.agg (u8s (seedN k).l)) w := by
  rcases (show k = 0 ∨ k = 1 ∨ k = 2 by omega) with rfl | rfl | rfl
  · kernel_rfl
  · kernel_rfl
  · kernel_rfl
instance : ZeroT Try.prog 61 #[.slice none 0 0, .slice none 0 0] := ⟨.agg #[.slice none 0 0, .slice none 0 0], fun _ => by kernel_rfl, rfl⟩
instance : ZeroT Try.prog 63 #[.slice none 0 0, .int .i64 0] := ⟨.agg #[.slice none 0 0, .int .i64 0], fun _ => by kernel_rfl, rfl⟩
instance (priority := 900) OffB.newB4 (w : World) (g : Nat) (A : Option Addr) (e : TypeId) (size n c : Nat) (xs : List Value) [b : NewB w g] [h : HO w e size A n c xs] : OffB (rowOf A) g := ⟨fun ⟨ad, e, hk⟩ => by
  have h1 := h.out.lt e
  have h2 := b.out
  omega⟩
instance OffA.zrow_ (z : Nat) (A B : Option Addr) [x : OffA (only z) B] [y : OffA (rowOf A) B] : OffA (zrow z A) B := ⟨fun ad e h => h.elim (x.out ad e) (y.out ad e)⟩
instance OffA.growM (w : World) (A A' B : Option Addr) (e : TypeId) (size n c : Nat) (xs : List Value) [k : Grew w A A'] [h : HO w e size B n c xs] [o : OffA (rowOf B) A] : OffA (rowOf B) A' := ⟨fun ad ea ⟨bd, eb, hk⟩ => by
  rcases k.out with h1 | h1
  · rw [h1] at ea
    exact o.out ad ea ⟨bd, eb, hk⟩
  · rw [h1] at ea
    injection ea with ea
    have h2 := h.out.lt eb
    rw [hk, ← ea] at h2
    exact absurd h2 (Nat.lt_irrefl _)⟩
/-- what the law writes of old in a round -/
def wset (z8 z9 : Nat) (A K : Option Addr) : Nat → Prop := fun x => zrow z9 K x ∨ zrow z8 A x
instance (w0 : World) (z8 z9 : Nat) (A K : Option Addr) : Into w0 (zrow z9 K) (wset z8 z9 A K) := ⟨fun _ _ h => .inl h⟩
instance (w0 : World) (z8 z9 : Nat) (A K : Option Addr) : Into w0 (zrow z8 A) (wset z8 z9 A K) := ⟨fun _ _ h => .inr h⟩
instance (priority := 750) Into.newB_ (w0 w : World) (z : Nat) (S : Nat → Prop) [b : NewB w z] [n : SzLe w0 w] : Into w0 (only z) S := ⟨fun x hx h => by
  have h' : x = z := h
  have h1 := b.out
  have h2 := n.out
  omega⟩
instance (priority := 850) OffA.rowOldA (w : World) (e : TypeId) (size n c : Nat) (B A : Option Addr) (xs : List Value) [b : NewA w A] [h : HO w e size B n c xs] : OffA (rowOf B) A := ⟨fun ad ea ⟨bd, eb, hk⟩ => by
  have h1 := h.out.lt eb
  have h2 := b.out ad ea
  omega⟩
/-- where a row may lie: where it was, or in what is new -/
def Near (w : World) (A A' : Option Addr) : Prop := ∀ bd, A' = some bd → rowOf A bd.block ∨ w.heap.size ≤ bd.block
theorem Near.refl (w : World) (A : Option Addr) : Near w A A := fun bd h => .inl ⟨bd, h, rfl⟩
theorem Near.grew (w wx : World) (A A' : Option Addr) [g : Grew wx A A'] [n : SzLe w wx] : Near w A A' := fun bd h => by
  rcases g.out with h1 | h1
  · rw [h1] at h
    exact .inl ⟨bd, h, rfl⟩
  · rw [h1] at h
    injection h with h
    rw [← h]
    exact .inr n.out
/-- marks that can be read here, apart from what is written -/
def MkOk (w : World) (z8 z9 : Nat) (A K : Option Addr) (l : List MarkR) : Prop := ∀ r ∈ l, MarkIn w r ∧ Apart (wset z8 z9 A K) r.A (cellsOf r.l) ∧ Apart (wset z8 z9 A K) r.B (cellsOf r.p)
theorem apart_four {z8 z9 : Nat} {A K R : Option Addr} {vs : List Value} (q1 : OffA (only z9) R) (q2 : OffA (rowOf K) R) (q3 : OffA (only z8) R) (q4 : OffA (rowOf A) R) : Apart (wset z8 z9 A K) R vs := fun _ ad e hk => by
  rcases hk with (h | h) | (h | h)
  · exact q1.out ad e h
  · exact q2.out ad e h
  · exact q3.out ad e h
  · exact q4.out ad e h
theorem apart_next {w : World} {z8 z9 : Nat} {A K A' K' R : Option Addr} {vs : List Value} (hr : Rd w R vs) (h : Apart (wset z8 z9 A K) R vs) (hA : Near w A A') (hK : Near w K K') : Apart (wset z8 z9 A' K') R vs := fun hne ad e hk => by
  have hlt := rd_lt hr hne e
  have hold := h hne ad e
  rcases hk with (h1 | ⟨bd, h1, h2⟩) | (h1 | ⟨bd, h1, h2⟩)
  · exact hold (.inl (.inl h1))
  · rcases hK bd h1 with h3 | h3
    · exact hold (.inl (.inr (by rw [← h2]; exact h3)))
    · omega
  · exact hold (.inr (.inl h1))
  · rcases hA bd h1 with h3 | h3
    · exact hold (.inr (.inr (by rw [← h2]; exact h3)))
    · omega
theorem MkOk.next {w w' : World} {z8 z9 : Nat} {A K A' K' : Option Addr} {l : List MarkR} (h : MkOk w z8 z9 A K l) (c : Chg (wset z8 z9 A K) w w') (hA : Near w A A') (hK : Near w K K') : MkOk w' z8 z9 A' K' l := fun r hr => by
  obtain ⟨⟨h1, h2⟩, h3, h4⟩ := h r hr
  exact ⟨⟨h1.chg c h3, h2.chg c h4⟩, apart_next h1 h3 hA hK, apart_next h2 h4 hA hK⟩
/-- what the law writes of old where it signs twice -/
def wset2 (z12 zk z8 z9 : Nat) (A K : Option Addr) : Nat → Prop := fun x => (x = z12 ∨ x = zk) ∨ wset z8 z9 A K x
instance (w0 : World) (z12 zk z8 z9 : Nat) (A K : Option Addr) : Into w0 (only z12) (wset2 z12 zk z8 z9 A K) := ⟨fun _ _ h => .inl (.inl h)⟩
instance (w0 : World) (z12 zk z8 z9 : Nat) (A K : Option Addr) : Into w0 (only zk) (wset2 z12 zk z8 z9 A K) := ⟨fun _ _ h => .inl (.inr h)⟩
instance (w0 : World) (z12 zk z8 z9 : Nat) (A K : Option Addr) : Into w0 (zrow z9 K) (wset2 z12 zk z8 z9 A K) := ⟨fun _ _ h => .inr (.inl h)⟩
instance (w0 : World) (z12 zk z8 z9 : Nat) (A K : Option Addr) : Into w0 (zrow z8 A) (wset2 z12 zk z8 z9 A K) := ⟨fun _ _ h => .inr (.inr h)⟩
theorem apart_old {w : World} {z : Nat} {R : Option Addr} {vs : List Value} (hr : Rd w R vs) (hz : w.heap.size ≤ z) : Apart (only z) R vs := fun hne ad e hk => by
  have h1 := rd_lt hr hne e
  have h2 : ad.block = z := hk
  omega
theorem apart_both {z12 zk z8 z9 : Nat} {A K R : Option Addr} {vs : List Value} (h1 : Apart (only z12) R vs) (h0 : Apart (only zk) R vs) (h2 : Apart (wset z8 z9 A K) R vs) : Apart (wset2 z12 zk z8 z9 A K) R vs := fun hne ad e hk => hk.elim (fun h => h.elim (h1 hne ad e) (h0 hne ad e)) (h2 hne ad e)
/-- a mark's rows lie apart from two blocks -/
def Off2 (z12 zk : Nat) (r : MarkR) : Prop := (Apart (only z12) r.A (cellsOf r.l) ∧ Apart (only z12) r.B (cellsOf r.p)) ∧ Apart (only zk) r.A (cellsOf r.l) ∧ Apart (only zk) r.B (cellsOf r.p)
theorem MkOk.next2 {w w' : World} {z12 zk z8 z9 : Nat} {A K A' K' : Option Addr} {l : List MarkR} (h : MkOk w z8 z9 A K l) (hz : ∀ r ∈ l, Off2 z12 zk r) (c : Chg (wset2 z12 zk z8 z9 A K) w w') (hA : Near w A A') (hK : Near w K K') : MkOk w' z8 z9 A' K' l := fun r hr => by
  obtain ⟨⟨h1, h2⟩, h3, h4⟩ := h r hr
  obtain ⟨⟨h5, h6⟩, h7, h8⟩ := hz r hr
  exact ⟨⟨h1.chg c (apart_both h5 h7 h3), h2.chg c (apart_both h6 h8 h4)⟩, apart_next h1 h3 hA hK, apart_next h2 h4 hA hK⟩
instance (w : World) (a b : Nat) : Sub w (only a) (both a b) := ⟨fun _ _ h => .inl h⟩
instance (w : World) (a b : Nat) : Sub w (only b) (both a b) := ⟨fun _ _ h => .inr h⟩
theorem offBoth {a b : Nat} {R : Option Addr} (h1 : OffA (only a) R) (h2 : OffA (only b) R) : OffA (both a b) R := ⟨fun ad e h => h.elim (h1.out ad e) (h2.out ad e)⟩
theorem markRow {w : World} {z : Nat} {t : TypeId} {r : MarkR} (h : HB w z t (RowC.enc r).toArray) : HR w (some ⟨z, 0, none⟩) (cellsOf [r]) := by
  have h1 := HR.ofBlkL h
  have e : cellsOf [r] = (RowC.enc r).toArray.toList := by simp [cellsOf]
  rw [e]
  exact h1
section
variable {P : Program} {fn : Func} {R : Ending → World → Prop} {a : Act} {w : World}
/-- two results that are structs in cells -/
theorem ret_rows {p q : Tmp} {ty ty2 : TypeId} (h : fn.results = #[.cell p ty, .cell q ty2]) {g g2 : Nat} (hp : a.tmps.getD p undef = .pointer (some ⟨g, 0, none⟩)) (hq : a.tmps.getD q undef = .pointer (some ⟨g2, 0, none⟩)) {tb tb2 : TypeId} {cs cs2 : Array Value} [hb : HB w g tb cs] [hb2 : HB w g2 tb2 cs2] {n n2 : Nat} [hr : RowT P ty n] [hr2 : RowT P ty2 n2] (hn : cs.size = n) (hn2 : cs2.size = n2) (hd : a.defers = []) (hR : R (.returned (.tuple #[.agg cs, .agg cs2])) w) : bodyPost P fn R .ret a w := by
  obtain ⟨d, hd1, hd2⟩ := hr.row
  obtain ⟨d2, hd3, hd4⟩ := hr2.row
  have e1 := run_loadVar_row (P := P) w g tb ty cs (0, 0) d hb.out hd1 (by cases d <;> first | rfl | cases hd2) (by rw [hn]; exact hr.size)
  have e2 := run_loadVar_row (P := P) w g2 tb2 ty2 cs2 (0, 0) d2 hb2.out hd3 (by cases d2 <;> first | rfl | cases hd4) (by rw [hn2]; exact hr2.size)
  refine bodyPost_ret ?_ hd hR
  have hp' : a.tmps[p]?.getD undef = .pointer (some ⟨g, 0, none⟩) := by simpa using hp
  have hq' : a.tmps[q]?.getD undef = .pointer (some ⟨g2, 0, none⟩) := by simpa using hq
  simp [results, h, hp', hq', asAddr, e1, e2]
end
theorem allSigs_len3 (m : List UInt8) (which : Int) (twice : Bool) : (allSigs m which twice 3).length ≤ 4 := by
  unfold allSigs setBits
  rw [show List.range 3 = [0, 1, 2] from rfl]
  cases twice <;> cases h0 : bitN which 0 <;> cases h1 : bitN which 1 <;> cases h2 : bitN which 2 <;> simp [h0, h1, h2, sigsOf]
def QSigned (m : List UInt8) (M : Option Addr) (nb cb : Nat) (which : Int) (twice : Bool) (w w' : World) (e : Ending) : Prop := ∃ (A K : Option Addr) (nm cm ck : Nat) (l : List MarkR),
  e = .returned (.tuple #[.agg #[.slice M nb cb, .slice A nm cm], .agg #[.slice K 3 ck, .int .i64 0]]) ∧ Step nowhere w w' ∧ HR w' A (cellsOf l) ∧ HR w' K (cellsOf (pubsN 3)) ∧ l.length = nm ∧ nm ≤ cm ∧ 3 ≤ ck ∧ nm ≤ 4 ∧ (∀ r ∈ l, MarkIn w' r) ∧ l.map markOf = allSigs m which twice 3
set_option maxRecDepth 100000 in
set_option maxHeartbeats 3200000 in
theorem qsigned_calls {m : List UInt8} {nb cb : Nat} {M : Option Addr} (which : Int) (twice : Bool) {w : World} [hm : HR w M (bs m)] (hlm : m.length = nb) (hn : nb ≤ 100000) :
    Calls Try.prog 45 #[.slice M nb cb, .int .i64 which, .bool twice] w fun e w' => QSigned m M nb cb which twice w w' e := by
  have kbE : ∀ w, (Instr.build 61 #[(0, .slice M nb cb)]).run Try.prog w = .ok (.agg #[.slice M nb cb, .slice none 0 0]) w := fun _ => by kernel_rfl
  have HM := Lib.hid hlm
  clear hlm
  go_enter Try.func45, Try.ntmps45
  go_wp2_with (first | go_skip | ((with_reducible apply wpl_build); (exact kbE _)) | ((with_reducible apply (wpl_alloc (dst := some 6))); intro y6 wy6 _ _ _) | ((with_reducible apply (wpl_alloc (dst := some 7))); intro y7 wy7 _ _ _) | ((with_reducible apply (wpl_alloc (dst := some 8))); intro z8 wz8 _ _ _) | ((with_reducible apply (wpl_alloc (dst := some 9))); intro z9 wz9 _ _ _) | ((with_reducible apply wpl_alloc); intro z wz _ _ _) | ((with_reducible apply wpl_loadrow); (exact rfl); infer_instance; infer_instance; (first | (with_reducible assumption) | (with_reducible exact H32.size _) | (with_reducible exact enc_sz _ rfl) | kernel_rfl)) | ((with_reducible apply wpl_loadcellN); (exact rfl); infer_instance; (exact rfl)) | ((with_reducible apply wpl_storerow); (exact rfl); (exact rfl); infer_instance; infer_instance; (first | (with_reducible assumption) | (with_reducible exact H32.size _) | (with_reducible exact enc_sz _ rfl) | kernel_rfl); (first | (with_reducible assumption) | (with_reducible exact H32.size _) | (with_reducible exact enc_sz _ rfl) | kernel_rfl); (first | (with_reducible exact u8s_one _) | (with_reducible assumption) | (with_reducible exact enc_one _) | kernel_rfl); intro ws _ _) | ((with_reducible apply wpl_storecell); (exact rfl); (exact rfl); infer_instance; (exact rfl); (first | (with_reducible assumption) | omega | (focus (simp; done)) | (focus (simp; omega; done)) | decide); intro ws _ _))
  have p1 : OffB (only z8) y6 := inferInstance
  have p2 : OffB (only z9) y6 := inferInstance
  have p3 : OffB (only z8) y7 := inferInstance
  have p4 : OffB (only z9) y7 := inferInstance
  have p5 : OffB (only y6) y7 := inferInstance
  have p6 : OffB (only y7) y6 := inferInstance
  have p7 : OffB (only y6) z8 := inferInstance
  have p8 : OffB (only y6) z9 := inferInstance
  have p9 : OffB (only y7) z8 := inferInstance
  have p10 : OffB (only y7) z9 := inferInstance
  go_loopw [10] (fun kv wr => ∃ (k nm cm ck : Nat) (A K : Option Addr) (l : List MarkR), k ≤ 3 ∧ nm ≤ 2 * k ∧ nm ≤ cm ∧ k ≤ ck ∧ kv = .int .i64 (k : Int) ∧ Step nowhere w wr ∧ HB wr z8 61 #[.slice M nb cb, .slice A nm cm] ∧ HB wr z9 63 #[.slice K k ck, .int .i64 0] ∧ HO wr 23 32 K k ck (cellsOf (pubsN k)) ∧ HO wr 74 35 A nm cm (cellsOf l) ∧ NewA w A ∧ NewA w K ∧ OffB (rowOf A) z8 ∧ OffB (rowOf A) z9 ∧ OffB (rowOf K) z8 ∧ OffB (rowOf K) z9 ∧ OffA (rowOf K) A ∧ OffA (rowOf A) K ∧ OffB (rowOf A) y6 ∧ OffB (rowOf A) y7 ∧ OffB (rowOf K) y6 ∧ OffB (rowOf K) y7 ∧ HB wr y6 61 #[.slice none 0 0, .slice none 0 0] ∧ HB wr y7 63 #[.slice none 0 0, .int .i64 0] ∧ Hid (MkOk wr z8 z9 A K l) ∧ Hid (l.length = nm) ∧ Hid (l.map markOf = allSigs m which twice k) ∧ Hid (∀ r ∈ l, OffA (both y6 y7) r.A ∧ OffA (both y6 y7) r.B)) (fun kv _ => 3 - (intOf kv).toNat)
  case atStart => exact ⟨0, 0, 0, 0, none, none, [], by decide, Nat.le_refl _, Nat.le_refl _, Nat.le_refl _, rfl, stepN, inferInstance, inferInstance, ⟨Own.nil _ _ _⟩, ⟨Own.nil _ _ _⟩, NewA.of_none _, NewA.of_none _, inferInstance, inferInstance, inferInstance, inferInstance, inferInstance, inferInstance, inferInstance, inferInstance, inferInstance, inferInstance, inferInstance, inferInstance, Lib.hid (fun r h => by cases h), Lib.hid rfl, Lib.hid rfl, Lib.hid (fun r h => by cases h)⟩
  case round =>
    obtain ⟨k, nm, cm, ck, A, K, l, hk, hnm, hcm, hck, rfl, _, _, _, _, _, _, _, _, _, _, _, _, _, _, _, _, _, _, _, HMO, HLN, HCT, HYY⟩ := hrel
    by_cases hlt : k < 3
    · have hltI : (k : Int) < 3 := by omega
      have kb1 := build_seed k hlt
      go_wp2_with (first | go_skip | ((with_reducible apply wpl_build); (exact kb1 _)) | ((with_reducible apply wpl_alloc); intro z wz _ _ _) | ((with_reducible apply wpl_loadrow); (exact rfl); infer_instance; infer_instance; (first | (with_reducible assumption) | (with_reducible exact H32.size _) | (with_reducible exact enc_sz _ rfl) | kernel_rfl)) | ((with_reducible apply wpl_loadcellN); (exact rfl); infer_instance; (exact rfl)) | ((with_reducible apply wpl_storerow); (exact rfl); (exact rfl); infer_instance; infer_instance; (first | (with_reducible assumption) | (with_reducible exact H32.size _) | (with_reducible exact enc_sz _ rfl) | kernel_rfl); (first | (with_reducible assumption) | (with_reducible exact H32.size _) | (with_reducible exact enc_sz _ rfl) | kernel_rfl); (first | (with_reducible exact u8s_one _) | (with_reducible assumption) | (with_reducible exact enc_one _) | kernel_rfl); intro ws _ _) | ((with_reducible apply wpl_storecell); (exact rfl); (exact rfl); infer_instance; (exact rfl); (first | (with_reducible assumption) | omega | (focus (simp; done)) | (focus (simp; omega; done)) | decide); intro ws _ _))
      refine (rnew_calls (seedN k) 0 _).mono ?_
      rw [show min (max (0 : Int) 0) 16 = 0 by decide, show pubS (seedN k) = pubN k from rfl]
      rintro e w1 ⟨zk, L, lc, rfl, _, _, _, _, hlc, _, _⟩
      have kb2 := run_oneH (pubN k)
      have hk9 : k + 1 ≤ 1000000000 := by omega
      go_wp2_with (first | go_skip | ((with_reducible apply wpl_alloc); intro z wz _ _ _) | ((with_reducible apply wpl_loadrow); (exact rfl); infer_instance; infer_instance; (first | (with_reducible assumption) | (with_reducible exact H32.size _) | (with_reducible exact enc_sz _ rfl) | kernel_rfl)) | ((with_reducible apply wpl_loadcellN); (exact rfl); infer_instance; (exact rfl)) | ((with_reducible apply wpl_storerow); (exact rfl); (exact rfl); infer_instance; infer_instance; (first | (with_reducible assumption) | (with_reducible exact H32.size _) | (with_reducible exact enc_sz _ rfl) | kernel_rfl); (first | (with_reducible assumption) | (with_reducible exact H32.size _) | (with_reducible exact enc_sz _ rfl) | kernel_rfl); (first | (with_reducible exact u8s_one _) | (with_reducible assumption) | (with_reducible exact enc_one _) | kernel_rfl); intro ws _ _) | ((with_reducible apply wpl_storecell); (exact rfl); (exact rfl); infer_instance; (exact rfl); (first | (with_reducible assumption) | omega | (focus (simp; done)) | (focus (simp; omega; done)) | decide); intro ws _ _))
      refine wp_region_N ((zrow z9 K)) (by kernel_rfl) (fun wd _ _ => ?_)
      refine' takeH (i := 0) (v := _) rfl (by kernel_rfl) (by kernel_rfl) (by kernel_rfl) (fun _ _ _ h => h) (yields_of (by rfl) (fun w' _ => ?_)) inferInstance ?_
      rotate_left
      · (first | ((with_reducible apply (ev_fieldE (t := 74))); (exact Try.underlying74); (exact rfl); (kernel_rfl); (exact rfl); infer_instance; (exact cells_pos (by decide) (by omega))) | (go_simp; try with_reducible rfl))
      try simp only [Act.put, sA]; try simp only [sB, sC]
      refine' takeH (i := 2) (v := _) rfl (by kernel_rfl) (by kernel_rfl) (by kernel_rfl) (fun _ _ _ h => h) (yields_of (by rfl) (fun w' _ => ?_)) inferInstance ?_
      rotate_left
      · (go_simp; try with_reducible rfl)
      try simp only [Act.put, sA]; try simp only [sB, sC]
      refine' takeH (i := 3) (v := _) rfl (by kernel_rfl) (by kernel_rfl) (by kernel_rfl) (fun _ _ _ h => h) (yields_of (by rfl) (fun w' _ => ?_)) inferInstance ?_
      rotate_left
      · (go_simp; try with_reducible rfl)
      try simp only [Act.put, sA]; try simp only [sB, sC]
      refine' takeH (i := 4) (v := _) rfl (by kernel_rfl) (by kernel_rfl) (by kernel_rfl) (fun _ _ _ h => h) (yields_of (by rfl) (fun w' _ => ?_)) inferInstance ?_
      rotate_left
      · (first | ((with_reducible apply (ev_fieldE (t := 74))); (exact Try.underlying74); (exact rfl); (kernel_rfl); (exact rfl); infer_instance; (exact cells_pos (by decide) (by omega))) | (go_simp; try with_reducible rfl))
      try simp only [Act.put, sA]; try simp only [sB, sC]
      refine' takeH (i := 5) (v := _) rfl (by kernel_rfl) (by kernel_rfl) (by kernel_rfl) (fun _ _ _ h => h) (yields_of (by rfl) (fun w' _ => ?_)) inferInstance ?_
      rotate_left
      · (first | ((with_reducible apply (ev_loadpartH (t := 23) (k := 33))); (exact rfl); infer_instance; infer_instance; (exact ref_pub)))
      try simp only [Act.put, sA]; try simp only [sB, sC]
      refine wpAnyH_ready (rs := [1, 6]) (by kernel_rfl) (by simp) (AllReadyH.cons rfl (fun K_ hK_ => ?_) (AllReadyH.cons rfl (fun K_ hK_ => ?_) AllReadyH.nil))
      focus
        rw [if_pos (by kernel_rfl)]
        refine wpr_of_list ?_
        (first | ((with_reducible apply (stop_dst (dst := some 30))); (try simp only [Act.put, sA, sB, sC]); ((with_reducible apply (wpl_bslice (dst := some 30))); (exact kb2 _); intro zb wb _ _ _)) | ((with_reducible apply wpl_appendH); (exact rfl); (exact rfl); infer_instance; infer_instance; infer_instance; (exact hk9); intro K2 ck2 wa _ _ _ hcap) | ((with_reducible apply wpl_loadrow); (exact rfl); infer_instance; infer_instance; (first | (with_reducible assumption) | (with_reducible exact H32.size _) | (with_reducible exact enc_sz _ rfl) | kernel_rfl)) | ((with_reducible apply wpl_loadcellN); (exact rfl); infer_instance; (exact rfl)) | ((with_reducible apply (wpl_loadhash (t := 23))); (exact rfl); infer_instance; infer_instance; (first | (with_reducible assumption) | omega)) | ((with_reducible apply (wpl_loadE (α := MarkR) (t := 74))); infer_instance; (exact rfl); infer_instance; (exact rfl); (decide); (first | (with_reducible assumption) | omega | (focus (simp; done)) | (focus (simp; omega; done)) | decide)) | ((with_reducible apply (wpl_loadF (α := MarkR))); infer_instance; (exact rfl); infer_instance; (exact rfl); (first | (with_reducible assumption) | omega | (focus (simp; done)) | (focus (simp; omega; done)) | decide); (exact rfl)) | ((with_reducible apply (wpl_loadint (t := 3))); (exact rfl); infer_instance; infer_instance; (first | (with_reducible assumption) | omega)) | ((with_reducible apply (wpl_loadbyte (t := 5))); (exact rfl); infer_instance; infer_instance; (first | (with_reducible assumption) | omega)))
        refine wpList_nil ?_
        unfold onlyN
        refine hK_.out _ _ inferInstance (fun _ => ?_)
        clear hK_ K_
        try simp only [Act.put, sA]; try simp only [sB, sC]
        refine goH (i := 6) (by kernel_rfl) rfl (fun K_ hK_ => ?_)
        rw [if_pos (by kernel_rfl)]
        refine wpr_of_list ?_
        (first | ((with_reducible apply (stop_dst (dst := some 30))); (try simp only [Act.put, sA, sB, sC]); ((with_reducible apply (wpl_bslice (dst := some 30))); (exact kb2 _); intro zb wb _ _ _)) | ((with_reducible apply wpl_appendH); (exact rfl); (exact rfl); infer_instance; infer_instance; infer_instance; (exact hk9); intro K2 ck2 wa _ _ _ hcap))
        refine wpList_nil ?_
        unfold onlyN
        refine hK_.out _ _ inferInstance (fun _ => ?_)
        clear hK_ K_
        try simp only [Act.put, sA]; try simp only [sB, sC]
        refine goH (i := 7) (by kernel_rfl) rfl (fun K_ hK_ => ?_)
        rw [if_pos (by kernel_rfl)]
        refine wpr_of_list ?_
        (first | ((with_reducible apply (stop_dst (dst := some 30))); (try simp only [Act.put, sA, sB, sC]); ((with_reducible apply (wpl_bslice (dst := some 30))); (exact kb2 _); intro zb wb _ _ _)) | ((with_reducible apply wpl_appendH); (exact rfl); (exact rfl); infer_instance; infer_instance; infer_instance; (exact hk9); intro K2 ck2 wa _ _ _ hcap) | ((with_reducible apply wpl_appendB); (exact rfl); (exact rfl); infer_instance; (first | exact inferInstance | exact ⟨Own.nil _ _ _⟩); infer_instance; (first | (with_reducible assumption) | (with_reducible exact H32.len _) | (focus (simp; done)) | omega); (first | (with_reducible assumption) | omega); intro A' c' wa _ _ _ hcap) | ((with_reducible apply wpl_appendH); (exact rfl); (exact rfl); infer_instance; (first | exact inferInstance | exact ⟨Own.nil _ _ _⟩); infer_instance; (first | (with_reducible assumption) | omega); intro A' c' wa _ _ _ hcap))
        refine wpList_nil ?_
        unfold onlyN
        refine hK_.out _ _ inferInstance (fun _ => ?_)
        clear hK_ K_
        try simp only [Act.put, sA]; try simp only [sB, sC]
        refine' takeH (i := 8) (v := _) rfl (by kernel_rfl) (by kernel_rfl) (by kernel_rfl) (fun _ _ _ h => h) (yields_of (by rfl) (fun w' _ => ?_)) inferInstance ?_
        rotate_left
        · (first | ((with_reducible apply (ev_fieldE (t := 74))); (exact Try.underlying74); (exact rfl); (kernel_rfl); (exact rfl); infer_instance; (exact cells_pos (by decide) (by omega))) | (go_simp; try with_reducible rfl))
        try simp only [Act.put, sA]; try simp only [sB, sC]
        refine goH (i := 9) (by kernel_rfl) rfl (fun K_ hK_ => ?_)
        rw [if_pos (by kernel_rfl)]
        refine wpr_of_list ?_
        (first | ((with_reducible apply (stop_dst (dst := some 30))); (try simp only [Act.put, sA, sB, sC]); ((with_reducible apply (wpl_bslice (dst := some 30))); (exact kb2 _); intro zb wb _ _ _)) | ((with_reducible apply wpl_appendH); (exact rfl); (exact rfl); infer_instance; infer_instance; infer_instance; (exact hk9); intro K2 ck2 wa _ _ _ hcap) | ((with_reducible apply wpl_storerow); (exact rfl); (exact rfl); infer_instance; infer_instance; (first | (with_reducible assumption) | (with_reducible exact H32.size _) | (with_reducible exact enc_sz _ rfl) | kernel_rfl); (first | (with_reducible assumption) | (with_reducible exact H32.size _) | (with_reducible exact enc_sz _ rfl) | kernel_rfl); (first | (with_reducible exact u8s_one _) | (with_reducible assumption) | (with_reducible exact enc_one _) | kernel_rfl); intro ws _ _) | ((with_reducible apply wpl_storecell); (exact rfl); (exact rfl); infer_instance; (exact rfl); (first | (with_reducible assumption) | omega | (focus (simp; done)) | (focus (simp; omega; done)) | decide); intro ws _ _) | ((with_reducible apply (wpl_storehash (t := 23))); (exact rfl); (exact rfl); infer_instance; infer_instance; (first | (with_reducible assumption) | omega | (focus (simp; done)) | (focus (simp; omega; done)) | decide); intro ws _ _) | ((with_reducible apply (wpl_storeint (t := 3))); (exact rfl); (exact rfl); infer_instance; (first | (with_reducible assumption) | omega); intro ws _ _) | ((with_reducible apply (wpl_storebyte (t := 5))); (exact rfl); (exact rfl); infer_instance; (first | (with_reducible assumption) | omega | (focus (simp; done)) | (focus (simp; omega; done)) | decide); (constructor <;> omega); intro ws _ _))
        refine wpList_nil ?_
        unfold onlyN
        refine hK_.out _ _ inferInstance (fun _ => ?_)
        clear hK_ K_
        try simp only [Act.put]
        refine wpAnyH_done (by kernel_rfl) ?_ _
      rotate_left 1
      focus
        rw [if_pos (by kernel_rfl)]
        refine wpr_of_list ?_
        (first | ((with_reducible apply (stop_dst (dst := some 30))); (try simp only [Act.put, sA, sB, sC]); ((with_reducible apply (wpl_bslice (dst := some 30))); (exact kb2 _); intro zb wb _ _ _)) | ((with_reducible apply wpl_appendH); (exact rfl); (exact rfl); infer_instance; infer_instance; infer_instance; (exact hk9); intro K2 ck2 wa _ _ _ hcap))
        refine wpList_nil ?_
        unfold onlyN
        refine hK_.out _ _ inferInstance (fun _ => ?_)
        clear hK_ K_
        try simp only [Act.put, sA]; try simp only [sB, sC]
        refine goH (i := 1) (by kernel_rfl) rfl (fun K_ hK_ => ?_)
        rw [if_pos (by kernel_rfl)]
        refine wpr_of_list ?_
        (first | ((with_reducible apply (stop_dst (dst := some 30))); (try simp only [Act.put, sA, sB, sC]); ((with_reducible apply (wpl_bslice (dst := some 30))); (exact kb2 _); intro zb wb _ _ _)) | ((with_reducible apply wpl_appendH); (exact rfl); (exact rfl); infer_instance; infer_instance; infer_instance; (exact hk9); intro K2 ck2 wa _ _ _ hcap) | ((with_reducible apply wpl_loadrow); (exact rfl); infer_instance; infer_instance; (first | (with_reducible assumption) | (with_reducible exact H32.size _) | (with_reducible exact enc_sz _ rfl) | kernel_rfl)) | ((with_reducible apply wpl_loadcellN); (exact rfl); infer_instance; (exact rfl)) | ((with_reducible apply (wpl_loadhash (t := 23))); (exact rfl); infer_instance; infer_instance; (first | (with_reducible assumption) | omega)) | ((with_reducible apply (wpl_loadE (α := MarkR) (t := 74))); infer_instance; (exact rfl); infer_instance; (exact rfl); (decide); (first | (with_reducible assumption) | omega | (focus (simp; done)) | (focus (simp; omega; done)) | decide)) | ((with_reducible apply (wpl_loadF (α := MarkR))); infer_instance; (exact rfl); infer_instance; (exact rfl); (first | (with_reducible assumption) | omega | (focus (simp; done)) | (focus (simp; omega; done)) | decide); (exact rfl)) | ((with_reducible apply (wpl_loadint (t := 3))); (exact rfl); infer_instance; infer_instance; (first | (with_reducible assumption) | omega)) | ((with_reducible apply (wpl_loadbyte (t := 5))); (exact rfl); infer_instance; infer_instance; (first | (with_reducible assumption) | omega)))
        refine wpList_nil ?_
        unfold onlyN
        refine hK_.out _ _ inferInstance (fun _ => ?_)
        clear hK_ K_
        try simp only [Act.put, sA]; try simp only [sB, sC]
        refine goH (i := 7) (by kernel_rfl) rfl (fun K_ hK_ => ?_)
        rw [if_pos (by kernel_rfl)]
        refine wpr_of_list ?_
        (first | ((with_reducible apply (stop_dst (dst := some 30))); (try simp only [Act.put, sA, sB, sC]); ((with_reducible apply (wpl_bslice (dst := some 30))); (exact kb2 _); intro zb wb _ _ _)) | ((with_reducible apply wpl_appendH); (exact rfl); (exact rfl); infer_instance; infer_instance; infer_instance; (exact hk9); intro K2 ck2 wa _ _ _ hcap) | ((with_reducible apply wpl_appendB); (exact rfl); (exact rfl); infer_instance; (first | exact inferInstance | exact ⟨Own.nil _ _ _⟩); infer_instance; (first | (with_reducible assumption) | (with_reducible exact H32.len _) | (focus (simp; done)) | omega); (first | (with_reducible assumption) | omega); intro A' c' wa _ _ _ hcap) | ((with_reducible apply wpl_appendH); (exact rfl); (exact rfl); infer_instance; (first | exact inferInstance | exact ⟨Own.nil _ _ _⟩); infer_instance; (first | (with_reducible assumption) | omega); intro A' c' wa _ _ _ hcap))
        refine wpList_nil ?_
        unfold onlyN
        refine hK_.out _ _ inferInstance (fun _ => ?_)
        clear hK_ K_
        try simp only [Act.put, sA]; try simp only [sB, sC]
        refine' takeH (i := 8) (v := _) rfl (by kernel_rfl) (by kernel_rfl) (by kernel_rfl) (fun _ _ _ h => h) (yields_of (by rfl) (fun w' _ => ?_)) inferInstance ?_
        rotate_left
        · (first | ((with_reducible apply (ev_fieldE (t := 74))); (exact Try.underlying74); (exact rfl); (kernel_rfl); (exact rfl); infer_instance; (exact cells_pos (by decide) (by omega))) | (go_simp; try with_reducible rfl))
        try simp only [Act.put, sA]; try simp only [sB, sC]
        refine goH (i := 9) (by kernel_rfl) rfl (fun K_ hK_ => ?_)
        rw [if_pos (by kernel_rfl)]
        refine wpr_of_list ?_
        (first | ((with_reducible apply (stop_dst (dst := some 30))); (try simp only [Act.put, sA, sB, sC]); ((with_reducible apply (wpl_bslice (dst := some 30))); (exact kb2 _); intro zb wb _ _ _)) | ((with_reducible apply wpl_appendH); (exact rfl); (exact rfl); infer_instance; infer_instance; infer_instance; (exact hk9); intro K2 ck2 wa _ _ _ hcap) | ((with_reducible apply wpl_storerow); (exact rfl); (exact rfl); infer_instance; infer_instance; (first | (with_reducible assumption) | (with_reducible exact H32.size _) | (with_reducible exact enc_sz _ rfl) | kernel_rfl); (first | (with_reducible assumption) | (with_reducible exact H32.size _) | (with_reducible exact enc_sz _ rfl) | kernel_rfl); (first | (with_reducible exact u8s_one _) | (with_reducible assumption) | (with_reducible exact enc_one _) | kernel_rfl); intro ws _ _) | ((with_reducible apply wpl_storecell); (exact rfl); (exact rfl); infer_instance; (exact rfl); (first | (with_reducible assumption) | omega | (focus (simp; done)) | (focus (simp; omega; done)) | decide); intro ws _ _) | ((with_reducible apply (wpl_storehash (t := 23))); (exact rfl); (exact rfl); infer_instance; infer_instance; (first | (with_reducible assumption) | omega | (focus (simp; done)) | (focus (simp; omega; done)) | decide); intro ws _ _) | ((with_reducible apply (wpl_storeint (t := 3))); (exact rfl); (exact rfl); infer_instance; (first | (with_reducible assumption) | omega); intro ws _ _) | ((with_reducible apply (wpl_storebyte (t := 5))); (exact rfl); (exact rfl); infer_instance; (first | (with_reducible assumption) | omega | (focus (simp; done)) | (focus (simp; omega; done)) | decide); (constructor <;> omega); intro ws _ _))
        refine wpList_nil ?_
        unfold onlyN
        refine hK_.out _ _ inferInstance (fun _ => ?_)
        clear hK_ K_
        try simp only [Act.put]
        refine wpAnyH_done (by kernel_rfl) ?_ _
      rotate_left 1
      all_goals
        have oK : OffA (rowOf K2) A := inferInstance
        have oA : OffA (rowOf A) K2 := inferInstance
        have hK2 : HO ws 23 32 K2 (k + 1) ck2 (cellsOf (pubsN (k + 1))) := by
          rw [pubsN_succ]
          infer_instance
        have h9 : HB ws z9 63 #[.slice K2 (k + 1) ck2, .int .i64 0] := inferInstance
        have h8 : HB ws z8 61 #[.slice M nb cb, .slice A nm cm] := inferInstance
        have hzk : HB ws zk 33 (refL (seedN k) L 16 lc (pubN k) 0).toArray := inferInstance
        have hL : HR ws L (cellsOf (leavesS (seedN k))) := inferInstance
        have hMM : HR ws M (bs m) := inferInstance
        have hp4 := path_len4 (seedN k) 0 (by decide) (by decide)
        cases hb : (bits .and .i64 (which / 2 ^ k) 1 == 1)
        case false =>
          have nK : Near wr K K2 := Near.grew wr _ K K2
          have c1 : Chg (wset z8 z9 A K) wr ws := (inferInstance : Ch (wset z8 z9 A K) wr ws).out
          have HMO2 : Hid (MkOk ws z8 z9 A K2 l) := Lib.hid (HMO.out.next c1 (Near.refl _ _) nK)
          have HCT2 : Hid (l.map markOf = allSigs m which twice (k + 1)) := Lib.hid (by rw [allSigs_no m which twice k hb]; exact HCT.out)
          have HLN2 := HLN
          have HYY2 := HYY
          clear HMO HCT c1 nK
          go_wp2_with (first | go_skip | ((with_reducible apply wpl_alloc); intro z wz _ _ _) | ((with_reducible apply wpl_loadrow); (exact rfl); infer_instance; infer_instance; (first | (with_reducible assumption) | (with_reducible exact H32.size _) | (with_reducible exact enc_sz _ rfl) | kernel_rfl)) | ((with_reducible apply wpl_loadcellN); (exact rfl); infer_instance; (exact rfl)) | ((with_reducible apply wpl_storerow); (exact rfl); (exact rfl); infer_instance; infer_instance; (first | (with_reducible assumption) | (with_reducible exact H32.size _) | (with_reducible exact enc_sz _ rfl) | kernel_rfl); (first | (with_reducible assumption) | (with_reducible exact H32.size _) | (with_reducible exact enc_sz _ rfl) | kernel_rfl); (first | (with_reducible exact u8s_one _) | (with_reducible assumption) | (with_reducible exact enc_one _) | kernel_rfl); intro ws _ _) | ((with_reducible apply wpl_storecell); (exact rfl); (exact rfl); infer_instance; (exact rfl); (first | (with_reducible assumption) | omega | (focus (simp; done)) | (focus (simp; omega; done)) | decide); intro ws _ _))
          refine ⟨⟨k + 1, nm, cm, ck2, A, K2, l, by omega, by omega, by omega, by omega, by go_num, stepN, inferInstance, inferInstance, inferInstance, inferInstance, inferInstance, inferInstance, inferInstance, inferInstance, inferInstance, inferInstance, inferInstance, inferInstance, inferInstance, inferInstance, inferInstance, inferInstance, inferInstance, inferInstance, HMO2, HLN2, HCT2, HYY2⟩, by simp [intOf]; omega⟩
        case true =>
          have hnm97 : nm + 1 ≤ 1000000000 := by omega
          go_wp2_with (first | go_skip | ((with_reducible apply wpl_alloc); intro z wz _ _ _) | ((with_reducible apply wpl_loadrow); (exact rfl); infer_instance; infer_instance; (first | (with_reducible assumption) | (with_reducible exact H32.size _) | (with_reducible exact enc_sz _ rfl) | kernel_rfl)) | ((with_reducible apply wpl_loadcellN); (exact rfl); infer_instance; (exact rfl)) | ((with_reducible apply wpl_storerow); (exact rfl); (exact rfl); infer_instance; infer_instance; (first | (with_reducible assumption) | (with_reducible exact H32.size _) | (with_reducible exact enc_sz _ rfl) | kernel_rfl); (first | (with_reducible assumption) | (with_reducible exact H32.size _) | (with_reducible exact enc_sz _ rfl) | kernel_rfl); (first | (with_reducible exact u8s_one _) | (with_reducible assumption) | (with_reducible exact enc_one _) | kernel_rfl); intro ws _ _) | ((with_reducible apply wpl_storecell); (exact rfl); (exact rfl); infer_instance; (exact rfl); (first | (with_reducible assumption) | omega | (focus (simp; done)) | (focus (simp; omega; done)) | decide); intro ws _ _))
          refine (rksign_calls (zk := zk) (used := 0) HM.out (by omega) hlc (by decide) (by decide)).mono ?_
          rw [hp4]
          rintro e w7 ⟨B7, b7, A7, c7, rfl, _, _, _, _, hS7, hP7⟩
          obtain ⟨S7, hS⟩ : ∃ S, S = signS (seedN k) 0 m := ⟨_, rfl⟩
          obtain ⟨P7, hP⟩ : ∃ Pa, Pa = pathA (leavesS (seedN k)) 0 := ⟨_, rfl⟩
          rw [← hS] at hS7
          rw [← hP] at hP7
          have HSL7 : S7.length = 36 := by rw [hS, signS_len]
          have HPL7 : P7.length = 4 := by rw [hP]; exact hp4
          have HS7 := Lib.hid hS
          have HP7 := Lib.hid hP
          have kb7 := run_mark ⟨pubN k, 0, B7, b7, S7, A7, c7, P7⟩
          have kc7 := run_oneM ⟨pubN k, 0, B7, b7, S7, A7, c7, P7⟩
          simp only [HSL7, HPL7] at kb7
          clear hS hP
          go_wp2_with (first | go_skip | ((with_reducible apply (wpl_alloc (dst := some 12))); intro z12 wz12 _ _ _) | ((with_reducible apply wpl_alloc); intro z wz _ _ _) | ((with_reducible apply wpl_loadrow); (exact rfl); infer_instance; infer_instance; (first | (with_reducible assumption) | (with_reducible exact H32.size _) | (with_reducible exact enc_sz _ rfl) | kernel_rfl)) | ((with_reducible apply wpl_loadcellN); (exact rfl); infer_instance; (exact rfl)) | ((with_reducible apply wpl_storerow); (exact rfl); (exact rfl); infer_instance; infer_instance; (first | (with_reducible assumption) | (with_reducible exact H32.size _) | (with_reducible exact enc_sz _ rfl) | kernel_rfl); (first | (with_reducible assumption) | (with_reducible exact H32.size _) | (with_reducible exact enc_sz _ rfl) | kernel_rfl); (first | (with_reducible exact u8s_one _) | (with_reducible assumption) | (with_reducible exact enc_one _) | kernel_rfl); intro ws _ _) | ((with_reducible apply wpl_storecell); (exact rfl); (exact rfl); infer_instance; (exact rfl); (first | (with_reducible assumption) | omega | (focus (simp; done)) | (focus (simp; omega; done)) | decide); intro ws _ _))
          refine wp_region_N ((zrow z8 A)) (by kernel_rfl) (fun wd _ _ => ?_)
          refine' takeH (i := 0) (v := _) rfl (by kernel_rfl) (by kernel_rfl) (by kernel_rfl) (fun _ _ _ h => h) (yields_of (by rfl) (fun w' _ => ?_)) inferInstance ?_
          rotate_left
          · (first | ((with_reducible apply (ev_fieldE (t := 74))); (exact Try.underlying74); (exact rfl); (kernel_rfl); (exact rfl); infer_instance; (exact cells_pos (by decide) (by omega))) | (go_simp; try with_reducible rfl))
          try simp only [Act.put, sA]; try simp only [sB, sC]
          refine' takeH (i := 2) (v := _) rfl (by kernel_rfl) (by kernel_rfl) (by kernel_rfl) (fun _ _ _ h => h) (yields_of (by rfl) (fun w' _ => ?_)) inferInstance ?_
          rotate_left
          · (go_simp; try with_reducible rfl)
          try simp only [Act.put, sA]; try simp only [sB, sC]
          refine' takeH (i := 3) (v := _) rfl (by kernel_rfl) (by kernel_rfl) (by kernel_rfl) (fun _ _ _ h => h) (yields_of (by rfl) (fun w' _ => ?_)) inferInstance ?_
          rotate_left
          · (go_simp; try with_reducible rfl)
          try simp only [Act.put, sA]; try simp only [sB, sC]
          refine' takeH (i := 4) (v := _) rfl (by kernel_rfl) (by kernel_rfl) (by kernel_rfl) (fun _ _ _ h => h) (yields_of (by rfl) (fun w' _ => ?_)) inferInstance ?_
          rotate_left
          · (first | ((with_reducible apply (ev_fieldE (t := 74))); (exact Try.underlying74); (exact rfl); (kernel_rfl); (exact rfl); infer_instance; (exact cells_pos (by decide) (by omega))) | (go_simp; try with_reducible rfl))
          try simp only [Act.put, sA]; try simp only [sB, sC]
          refine' takeH (i := 5) (v := _) rfl (by kernel_rfl) (by kernel_rfl) (by kernel_rfl) (fun _ _ _ h => h) (yields_of (by rfl) (fun w' _ => ?_)) inferInstance ?_
          rotate_left
          · (first | ((with_reducible apply (ev_loadpartH (t := 23) (k := 33))); (exact rfl); infer_instance; infer_instance; (exact ref_pub)))
          try simp only [Act.put, sA]; try simp only [sB, sC]
          refine' takeH (i := 6) (v := _) rfl (by kernel_rfl) (by kernel_rfl) (by kernel_rfl) (fun _ _ _ h => h) (yields_of (by rfl) (fun w' _ => ?_)) inferInstance ?_
          rotate_left
          · (first | ((with_reducible apply ev_loadrow); (exact rfl); infer_instance; infer_instance; (first | (with_reducible assumption) | (with_reducible exact H32.size _) | (with_reducible exact enc_sz _ rfl) | kernel_rfl)) | ((with_reducible apply (ev_loadhash (t := 23))); (exact rfl); infer_instance; infer_instance; (first | (with_reducible assumption) | omega)) | ((with_reducible apply ev_loadcellN); (exact rfl); infer_instance; infer_instance; (exact rfl)) | ((with_reducible apply (ev_loadE (α := MarkR) (t := 74))); infer_instance; (exact rfl); infer_instance; (exact rfl); (decide); (first | (with_reducible assumption) | omega | (focus (simp; done)) | (focus (simp; omega; done)) | decide)) | ((with_reducible apply (ev_loadF (α := MarkR))); infer_instance; (exact rfl); infer_instance; (exact rfl); (first | (with_reducible assumption) | omega | (focus (simp; done)) | (focus (simp; omega; done)) | decide); (exact rfl)) | ((with_reducible apply (ev_loadint (t := 3))); (exact rfl); infer_instance; infer_instance; (first | (with_reducible assumption) | omega)) | ((with_reducible apply (ev_loadbyte (t := 5))); (exact rfl); infer_instance; infer_instance; (first | (with_reducible assumption) | omega)) | (go_simp; try with_reducible rfl))
          try simp only [Act.put, sA]; try simp only [sB, sC]
          refine' takeH (i := 7) (v := _) rfl (by kernel_rfl) (by kernel_rfl) (by kernel_rfl) (fun _ _ _ h => h) (yields_of (by rfl) (fun w' _ => ?_)) inferInstance ?_
          rotate_left
          · (first | ((with_reducible apply ev_build); exact kb7 _) | (go_simp; try with_reducible rfl))
          try simp only [Act.put, sA]; try simp only [sB, sC]
          refine wpAnyH_ready (rs := [1, 8]) (by kernel_rfl) (by simp) (AllReadyH.cons rfl (fun K_ hK_ => ?_) (AllReadyH.cons rfl (fun K_ hK_ => ?_) AllReadyH.nil))
          focus
            rw [if_pos (by kernel_rfl)]
            refine wpr_of_list ?_
            (first | ((with_reducible apply (stop_dst (dst := some 52))); (try simp only [Act.put, sA, sB, sC]); ((with_reducible apply (wpl_build (dst := some 52))); (exact kb7 _))) | ((with_reducible apply (stop_dst (dst := some 53))); (try simp only [Act.put, sA, sB, sC]); ((with_reducible apply (wpl_bslice (dst := some 53))); (exact kc7 _); intro zm7 wb _ _ _)) | ((with_reducible apply (wpl_appendR (α := MarkR))); (exact rfl); (exact rfl); infer_instance; infer_instance; (exact markRow (r := ⟨pubN k, 0, B7, b7, S7, A7, c7, P7⟩) inferInstance); (exact rfl); (exact rfl); (exact hnm97); (decide); (decide); intro A2 cm2 wa2 _ _ _ hcap2) | ((with_reducible apply wpl_loadrow); (exact rfl); infer_instance; infer_instance; (first | (with_reducible assumption) | (with_reducible exact H32.size _) | (with_reducible exact enc_sz _ rfl) | kernel_rfl)) | ((with_reducible apply wpl_loadcellN); (exact rfl); infer_instance; (exact rfl)) | ((with_reducible apply (wpl_loadhash (t := 23))); (exact rfl); infer_instance; infer_instance; (first | (with_reducible assumption) | omega)) | ((with_reducible apply (wpl_loadE (α := MarkR) (t := 74))); infer_instance; (exact rfl); infer_instance; (exact rfl); (decide); (first | (with_reducible assumption) | omega | (focus (simp; done)) | (focus (simp; omega; done)) | decide)) | ((with_reducible apply (wpl_loadF (α := MarkR))); infer_instance; (exact rfl); infer_instance; (exact rfl); (first | (with_reducible assumption) | omega | (focus (simp; done)) | (focus (simp; omega; done)) | decide); (exact rfl)) | ((with_reducible apply (wpl_loadint (t := 3))); (exact rfl); infer_instance; infer_instance; (first | (with_reducible assumption) | omega)) | ((with_reducible apply (wpl_loadbyte (t := 5))); (exact rfl); infer_instance; infer_instance; (first | (with_reducible assumption) | omega)))
            refine wpList_nil ?_
            unfold onlyN
            refine hK_.out _ _ inferInstance (fun _ => ?_)
            clear hK_ K_
            try simp only [Act.put, sA]; try simp only [sB, sC]
            refine goH (i := 8) (by kernel_rfl) rfl (fun K_ hK_ => ?_)
            rw [if_pos (by kernel_rfl)]
            refine wpr_of_list ?_
            (first | ((with_reducible apply (stop_dst (dst := some 52))); (try simp only [Act.put, sA, sB, sC]); ((with_reducible apply (wpl_build (dst := some 52))); (exact kb7 _))) | ((with_reducible apply (stop_dst (dst := some 53))); (try simp only [Act.put, sA, sB, sC]); ((with_reducible apply (wpl_bslice (dst := some 53))); (exact kc7 _); intro zm7 wb _ _ _)) | ((with_reducible apply (wpl_appendR (α := MarkR))); (exact rfl); (exact rfl); infer_instance; infer_instance; (exact markRow (r := ⟨pubN k, 0, B7, b7, S7, A7, c7, P7⟩) inferInstance); (exact rfl); (exact rfl); (exact hnm97); (decide); (decide); intro A2 cm2 wa2 _ _ _ hcap2))
            refine wpList_nil ?_
            unfold onlyN
            refine hK_.out _ _ inferInstance (fun _ => ?_)
            clear hK_ K_
            try simp only [Act.put, sA]; try simp only [sB, sC]
            refine goH (i := 9) (by kernel_rfl) rfl (fun K_ hK_ => ?_)
            rw [if_pos (by kernel_rfl)]
            refine wpr_of_list ?_
            (first | ((with_reducible apply (stop_dst (dst := some 52))); (try simp only [Act.put, sA, sB, sC]); ((with_reducible apply (wpl_build (dst := some 52))); (exact kb7 _))) | ((with_reducible apply (stop_dst (dst := some 53))); (try simp only [Act.put, sA, sB, sC]); ((with_reducible apply (wpl_bslice (dst := some 53))); (exact kc7 _); intro zm7 wb _ _ _)) | ((with_reducible apply (wpl_appendR (α := MarkR))); (exact rfl); (exact rfl); infer_instance; infer_instance; (exact markRow (r := ⟨pubN k, 0, B7, b7, S7, A7, c7, P7⟩) inferInstance); (exact rfl); (exact rfl); (exact hnm97); (decide); (decide); intro A2 cm2 wa2 _ _ _ hcap2) | ((with_reducible apply wpl_appendB); (exact rfl); (exact rfl); infer_instance; (first | exact inferInstance | exact ⟨Own.nil _ _ _⟩); infer_instance; (first | (with_reducible assumption) | (with_reducible exact H32.len _) | (focus (simp; done)) | omega); (first | (with_reducible assumption) | omega); intro A' c' wa _ _ _ hcap) | ((with_reducible apply wpl_appendH); (exact rfl); (exact rfl); infer_instance; (first | exact inferInstance | exact ⟨Own.nil _ _ _⟩); infer_instance; (first | (with_reducible assumption) | omega); intro A' c' wa _ _ _ hcap))
            refine wpList_nil ?_
            unfold onlyN
            refine hK_.out _ _ inferInstance (fun _ => ?_)
            clear hK_ K_
            try simp only [Act.put, sA]; try simp only [sB, sC]
            refine' takeH (i := 10) (v := _) rfl (by kernel_rfl) (by kernel_rfl) (by kernel_rfl) (fun _ _ _ h => h) (yields_of (by rfl) (fun w' _ => ?_)) inferInstance ?_
            rotate_left
            · (first | ((with_reducible apply (ev_fieldE (t := 74))); (exact Try.underlying74); (exact rfl); (kernel_rfl); (exact rfl); infer_instance; (exact cells_pos (by decide) (by omega))) | (go_simp; try with_reducible rfl))
            try simp only [Act.put, sA]; try simp only [sB, sC]
            refine goH (i := 11) (by kernel_rfl) rfl (fun K_ hK_ => ?_)
            rw [if_pos (by kernel_rfl)]
            refine wpr_of_list ?_
            (first | ((with_reducible apply (stop_dst (dst := some 52))); (try simp only [Act.put, sA, sB, sC]); ((with_reducible apply (wpl_build (dst := some 52))); (exact kb7 _))) | ((with_reducible apply (stop_dst (dst := some 53))); (try simp only [Act.put, sA, sB, sC]); ((with_reducible apply (wpl_bslice (dst := some 53))); (exact kc7 _); intro zm7 wb _ _ _)) | ((with_reducible apply (wpl_appendR (α := MarkR))); (exact rfl); (exact rfl); infer_instance; infer_instance; (exact markRow (r := ⟨pubN k, 0, B7, b7, S7, A7, c7, P7⟩) inferInstance); (exact rfl); (exact rfl); (exact hnm97); (decide); (decide); intro A2 cm2 wa2 _ _ _ hcap2) | ((with_reducible apply wpl_storerow); (exact rfl); (exact rfl); infer_instance; infer_instance; (first | (with_reducible assumption) | (with_reducible exact H32.size _) | (with_reducible exact enc_sz _ rfl) | kernel_rfl); (first | (with_reducible assumption) | (with_reducible exact H32.size _) | (with_reducible exact enc_sz _ rfl) | kernel_rfl); (first | (with_reducible exact u8s_one _) | (with_reducible assumption) | (with_reducible exact enc_one _) | kernel_rfl); intro ws _ _) | ((with_reducible apply wpl_storecell); (exact rfl); (exact rfl); infer_instance; (exact rfl); (first | (with_reducible assumption) | omega | (focus (simp; done)) | (focus (simp; omega; done)) | decide); intro ws _ _) | ((with_reducible apply (wpl_storehash (t := 23))); (exact rfl); (exact rfl); infer_instance; infer_instance; (first | (with_reducible assumption) | omega | (focus (simp; done)) | (focus (simp; omega; done)) | decide); intro ws _ _) | ((with_reducible apply (wpl_storeint (t := 3))); (exact rfl); (exact rfl); infer_instance; (first | (with_reducible assumption) | omega); intro ws _ _) | ((with_reducible apply (wpl_storebyte (t := 5))); (exact rfl); (exact rfl); infer_instance; (first | (with_reducible assumption) | omega | (focus (simp; done)) | (focus (simp; omega; done)) | decide); (constructor <;> omega); intro ws _ _))
            refine wpList_nil ?_
            unfold onlyN
            refine hK_.out _ _ inferInstance (fun _ => ?_)
            clear hK_ K_
            try simp only [Act.put]
            refine wpAnyH_done (by kernel_rfl) ?_ _
          rotate_left 1
          focus
            rw [if_pos (by kernel_rfl)]
            refine wpr_of_list ?_
            (first | ((with_reducible apply (stop_dst (dst := some 52))); (try simp only [Act.put, sA, sB, sC]); ((with_reducible apply (wpl_build (dst := some 52))); (exact kb7 _))) | ((with_reducible apply (stop_dst (dst := some 53))); (try simp only [Act.put, sA, sB, sC]); ((with_reducible apply (wpl_bslice (dst := some 53))); (exact kc7 _); intro zm7 wb _ _ _)) | ((with_reducible apply (wpl_appendR (α := MarkR))); (exact rfl); (exact rfl); infer_instance; infer_instance; (exact markRow (r := ⟨pubN k, 0, B7, b7, S7, A7, c7, P7⟩) inferInstance); (exact rfl); (exact rfl); (exact hnm97); (decide); (decide); intro A2 cm2 wa2 _ _ _ hcap2))
            refine wpList_nil ?_
            unfold onlyN
            refine hK_.out _ _ inferInstance (fun _ => ?_)
            clear hK_ K_
            try simp only [Act.put, sA]; try simp only [sB, sC]
            refine goH (i := 1) (by kernel_rfl) rfl (fun K_ hK_ => ?_)
            rw [if_pos (by kernel_rfl)]
            refine wpr_of_list ?_
            (first | ((with_reducible apply (stop_dst (dst := some 52))); (try simp only [Act.put, sA, sB, sC]); ((with_reducible apply (wpl_build (dst := some 52))); (exact kb7 _))) | ((with_reducible apply (stop_dst (dst := some 53))); (try simp only [Act.put, sA, sB, sC]); ((with_reducible apply (wpl_bslice (dst := some 53))); (exact kc7 _); intro zm7 wb _ _ _)) | ((with_reducible apply (wpl_appendR (α := MarkR))); (exact rfl); (exact rfl); infer_instance; infer_instance; (exact markRow (r := ⟨pubN k, 0, B7, b7, S7, A7, c7, P7⟩) inferInstance); (exact rfl); (exact rfl); (exact hnm97); (decide); (decide); intro A2 cm2 wa2 _ _ _ hcap2) | ((with_reducible apply wpl_loadrow); (exact rfl); infer_instance; infer_instance; (first | (with_reducible assumption) | (with_reducible exact H32.size _) | (with_reducible exact enc_sz _ rfl) | kernel_rfl)) | ((with_reducible apply wpl_loadcellN); (exact rfl); infer_instance; (exact rfl)) | ((with_reducible apply (wpl_loadhash (t := 23))); (exact rfl); infer_instance; infer_instance; (first | (with_reducible assumption) | omega)) | ((with_reducible apply (wpl_loadE (α := MarkR) (t := 74))); infer_instance; (exact rfl); infer_instance; (exact rfl); (decide); (first | (with_reducible assumption) | omega | (focus (simp; done)) | (focus (simp; omega; done)) | decide)) | ((with_reducible apply (wpl_loadF (α := MarkR))); infer_instance; (exact rfl); infer_instance; (exact rfl); (first | (with_reducible assumption) | omega | (focus (simp; done)) | (focus (simp; omega; done)) | decide); (exact rfl)) | ((with_reducible apply (wpl_loadint (t := 3))); (exact rfl); infer_instance; infer_instance; (first | (with_reducible assumption) | omega)) | ((with_reducible apply (wpl_loadbyte (t := 5))); (exact rfl); infer_instance; infer_instance; (first | (with_reducible assumption) | omega)))
            refine wpList_nil ?_
            unfold onlyN
            refine hK_.out _ _ inferInstance (fun _ => ?_)
            clear hK_ K_
            try simp only [Act.put, sA]; try simp only [sB, sC]
            refine goH (i := 9) (by kernel_rfl) rfl (fun K_ hK_ => ?_)
            rw [if_pos (by kernel_rfl)]
            refine wpr_of_list ?_
            (first | ((with_reducible apply (stop_dst (dst := some 52))); (try simp only [Act.put, sA, sB, sC]); ((with_reducible apply (wpl_build (dst := some 52))); (exact kb7 _))) | ((with_reducible apply (stop_dst (dst := some 53))); (try simp only [Act.put, sA, sB, sC]); ((with_reducible apply (wpl_bslice (dst := some 53))); (exact kc7 _); intro zm7 wb _ _ _)) | ((with_reducible apply (wpl_appendR (α := MarkR))); (exact rfl); (exact rfl); infer_instance; infer_instance; (exact markRow (r := ⟨pubN k, 0, B7, b7, S7, A7, c7, P7⟩) inferInstance); (exact rfl); (exact rfl); (exact hnm97); (decide); (decide); intro A2 cm2 wa2 _ _ _ hcap2) | ((with_reducible apply wpl_appendB); (exact rfl); (exact rfl); infer_instance; (first | exact inferInstance | exact ⟨Own.nil _ _ _⟩); infer_instance; (first | (with_reducible assumption) | (with_reducible exact H32.len _) | (focus (simp; done)) | omega); (first | (with_reducible assumption) | omega); intro A' c' wa _ _ _ hcap) | ((with_reducible apply wpl_appendH); (exact rfl); (exact rfl); infer_instance; (first | exact inferInstance | exact ⟨Own.nil _ _ _⟩); infer_instance; (first | (with_reducible assumption) | omega); intro A' c' wa _ _ _ hcap))
            refine wpList_nil ?_
            unfold onlyN
            refine hK_.out _ _ inferInstance (fun _ => ?_)
            clear hK_ K_
            try simp only [Act.put, sA]; try simp only [sB, sC]
            refine' takeH (i := 10) (v := _) rfl (by kernel_rfl) (by kernel_rfl) (by kernel_rfl) (fun _ _ _ h => h) (yields_of (by rfl) (fun w' _ => ?_)) inferInstance ?_
            rotate_left
            · (first | ((with_reducible apply (ev_fieldE (t := 74))); (exact Try.underlying74); (exact rfl); (kernel_rfl); (exact rfl); infer_instance; (exact cells_pos (by decide) (by omega))) | (go_simp; try with_reducible rfl))
            try simp only [Act.put, sA]; try simp only [sB, sC]
            refine goH (i := 11) (by kernel_rfl) rfl (fun K_ hK_ => ?_)
            rw [if_pos (by kernel_rfl)]
            refine wpr_of_list ?_
            (first | ((with_reducible apply (stop_dst (dst := some 52))); (try simp only [Act.put, sA, sB, sC]); ((with_reducible apply (wpl_build (dst := some 52))); (exact kb7 _))) | ((with_reducible apply (stop_dst (dst := some 53))); (try simp only [Act.put, sA, sB, sC]); ((with_reducible apply (wpl_bslice (dst := some 53))); (exact kc7 _); intro zm7 wb _ _ _)) | ((with_reducible apply (wpl_appendR (α := MarkR))); (exact rfl); (exact rfl); infer_instance; infer_instance; (exact markRow (r := ⟨pubN k, 0, B7, b7, S7, A7, c7, P7⟩) inferInstance); (exact rfl); (exact rfl); (exact hnm97); (decide); (decide); intro A2 cm2 wa2 _ _ _ hcap2) | ((with_reducible apply wpl_storerow); (exact rfl); (exact rfl); infer_instance; infer_instance; (first | (with_reducible assumption) | (with_reducible exact H32.size _) | (with_reducible exact enc_sz _ rfl) | kernel_rfl); (first | (with_reducible assumption) | (with_reducible exact H32.size _) | (with_reducible exact enc_sz _ rfl) | kernel_rfl); (first | (with_reducible exact u8s_one _) | (with_reducible assumption) | (with_reducible exact enc_one _) | kernel_rfl); intro ws _ _) | ((with_reducible apply wpl_storecell); (exact rfl); (exact rfl); infer_instance; (exact rfl); (first | (with_reducible assumption) | omega | (focus (simp; done)) | (focus (simp; omega; done)) | decide); intro ws _ _) | ((with_reducible apply (wpl_storehash (t := 23))); (exact rfl); (exact rfl); infer_instance; infer_instance; (first | (with_reducible assumption) | omega | (focus (simp; done)) | (focus (simp; omega; done)) | decide); intro ws _ _) | ((with_reducible apply (wpl_storeint (t := 3))); (exact rfl); (exact rfl); infer_instance; (first | (with_reducible assumption) | omega); intro ws _ _) | ((with_reducible apply (wpl_storebyte (t := 5))); (exact rfl); (exact rfl); infer_instance; (first | (with_reducible assumption) | omega | (focus (simp; done)) | (focus (simp; omega; done)) | decide); (constructor <;> omega); intro ws _ _))
            refine wpList_nil ?_
            unfold onlyN
            refine hK_.out _ _ inferInstance (fun _ => ?_)
            clear hK_ K_
            try simp only [Act.put]
            refine wpAnyH_done (by kernel_rfl) ?_ _
          rotate_left 1
          all_goals
            have HAL : Hid ((twice && k == 0) = false ∨ (twice && k == 0) = true) := Lib.hid (by cases (twice && k == 0) <;> simp)
            by_cases hbt : (twice && k == 0) = true
            · obtain rfl : twice = true := by simp at hbt; exact hbt.1
              have hk0I : (k : Int) ≤ 0 := by simp at hbt; omega
              clear HAL
              have hnm98 : nm + 1 + 1 ≤ 1000000000 := by omega
              have nA1 : Near wr A A2 := Near.grew wr _ A A2
              have nK1 : Near wr K K2 := Near.grew wr _ K K2
              have c9 : Chg (wset z8 z9 A K) wr ws := (inferInstance : Ch (wset z8 z9 A K) wr ws).out
              have HMO9 : MkOk ws z8 z9 A2 K2 l := HMO.out.next c9 nA1 nK1
              have q1B7A2 : OffA (only z9) B7 := inferInstance
              have q2B7A2 : OffA (rowOf K2) B7 := inferInstance
              have q3B7A2 : OffA (only z8) B7 := inferInstance
              have q4B7A2 : OffA (rowOf A2) B7 := inferInstance
              have q1A7A2 : OffA (only z9) A7 := inferInstance
              have q2A7A2 : OffA (rowOf K2) A7 := inferInstance
              have q3A7A2 : OffA (only z8) A7 := inferInstance
              have q4A7A2 : OffA (rowOf A2) A7 := inferInstance
              have uy6B7A2 : OffA (only y6) B7 := inferInstance
              have uy7B7A2 : OffA (only y7) B7 := inferInstance
              have uy6A7A2 : OffA (only y6) A7 := inferInstance
              have uy7A7A2 : OffA (only y7) A7 := inferInstance
              have HYY9 : Hid (∀ r ∈ l ++ [⟨pubN k, 0, B7, b7, S7, A7, c7, P7⟩], OffA (both y6 y7) r.A ∧ OffA (both y6 y7) r.B) := Lib.hid (fun r hr => by
                rcases List.mem_append.1 hr with h | h
                · exact HYY.out r h
                · rw [List.mem_singleton.1 h]
                  exact ⟨offBoth uy6B7A2 uy7B7A2, offBoth uy6A7A2 uy7A7A2⟩)
              have HMO9b : Hid (MkOk ws z8 z9 A2 K2 (l ++ [⟨pubN k, 0, B7, b7, S7, A7, c7, P7⟩])) := Lib.hid (fun r hr => by
                rcases List.mem_append.1 hr with h | h
                · exact HMO9 r h
                · rw [List.mem_singleton.1 h]
                  exact ⟨⟨(inferInstance : HR ws B7 (cellsOf S7)).out, (inferInstance : HR ws A7 (cellsOf P7)).out⟩, apart_four q1B7A2 q2B7A2 q3B7A2 q4B7A2, apart_four q1A7A2 q2A7A2 q3A7A2 q4A7A2⟩)
              have HCT9 : Hid ((l ++ [(⟨pubN k, 0, B7, b7, S7, A7, c7, P7⟩ : MarkR)]).map markOf = allSigs m which true k ++ [sigAt m k 0]) := Lib.hid (by
                rw [List.map_append, HCT.out, HS7.out, HP7.out]
                rfl)
              have z12N : wr.heap.size ≤ z12 := by
                rw [(inferInstance : Born _ z12).eq]
                exact (inferInstance : SzLe wr _).out
              have zkN : wr.heap.size ≤ zk := by
                have h1 := (inferInstance : NewB _ zk).out
                exact Nat.le_trans (inferInstance : SzLe wr _).out h1
              have qz1 : OffA (only z12) B7 := inferInstance
              have qz2 : OffA (only z12) A7 := inferInstance
              have qz3 : OffA (only zk) B7 := inferInstance
              have qz4 : OffA (only zk) A7 := inferInstance
              have HZ : Hid (∀ r ∈ l ++ [(⟨pubN k, 0, B7, b7, S7, A7, c7, P7⟩ : MarkR)], Off2 z12 zk r) := Lib.hid (fun r hr => by
                rcases List.mem_append.1 hr with h | h
                · exact ⟨⟨apart_old (HMO.out r h).1.1 z12N, apart_old (HMO.out r h).1.2 z12N⟩, apart_old (HMO.out r h).1.1 zkN, apart_old (HMO.out r h).1.2 zkN⟩
                · rw [List.mem_singleton.1 h]
                  exact ⟨⟨fun _ ad e hk => qz1.out ad e hk, fun _ ad e hk => qz2.out ad e hk⟩, fun _ ad e hk => qz3.out ad e hk, fun _ ad e hk => qz4.out ad e hk⟩)
              have HLN9 : Hid ((l ++ [(⟨pubN k, 0, B7, b7, S7, A7, c7, P7⟩ : MarkR)]).length = nm + 1) := Lib.hid (by rw [List.length_append, HLN.out]; rfl)
              obtain ⟨l2, hl2⟩ : ∃ x : List MarkR, x = l ++ [⟨pubN k, 0, B7, b7, S7, A7, c7, P7⟩] := ⟨_, rfl⟩
              have hA9 : HO ws 74 35 A2 (nm + 1) cm2 (cellsOf l2) := by
                rw [hl2]
                infer_instance
              rw [← hl2] at HMO9b HCT9 HLN9 HZ HYY9
              clear HMO HCT HLN c9 nA1 nK1 HMO9 hl2
              have h89 : HB ws z8 61 #[.slice M nb cb, .slice A2 (nm + 1) cm2] := inferInstance
              have h99 : HB ws z9 63 #[.slice K2 (k + 1) ck2, .int .i64 0] := inferInstance
              have hzk9 : HB ws zk 33 (refL (seedN k) L 16 lc (pubN k) 1).toArray := (inferInstance : HB ws zk 33 (refL (seedN k) L 16 lc (pubN k) (0 + 1)).toArray)
              have hL9 : HR ws L (cellsOf (leavesS (seedN k))) := inferInstance
              have hMM9 : HR ws M (bs m) := inferInstance
              have hK9 : HO ws 23 32 K2 (k + 1) ck2 (cellsOf (pubsN (k + 1))) := inferInstance
              have hy6 : HB ws y6 61 #[.slice none 0 0, .slice none 0 0] := inferInstance
              have hy7 : HB ws y7 63 #[.slice none 0 0, .int .i64 0] := inferInstance
              have oK9 : OffA (rowOf K2) A2 := inferInstance
              have oA9 : OffA (rowOf A2) K2 := inferInstance
              have w09 : Step nowhere w ws := stepN
              have nA9 : NewA w A2 := inferInstance
              have nK9 : NewA w K2 := inferInstance
              obtain ⟨w8, hw8⟩ : ∃ x, x = ws := ⟨_, rfl⟩
              subst hw8
              go_wp2_with (first | go_skip | ((with_reducible apply wpl_alloc); intro z wz _ _ _) | ((with_reducible apply wpl_loadrow); (exact rfl); infer_instance; infer_instance; (first | (with_reducible assumption) | (with_reducible exact H32.size _) | (with_reducible exact enc_sz _ rfl) | kernel_rfl)) | ((with_reducible apply wpl_loadcellN); (exact rfl); infer_instance; (exact rfl)) | ((with_reducible apply wpl_storerow); (exact rfl); (exact rfl); infer_instance; infer_instance; (first | (with_reducible assumption) | (with_reducible exact H32.size _) | (with_reducible exact enc_sz _ rfl) | kernel_rfl); (first | (with_reducible assumption) | (with_reducible exact H32.size _) | (with_reducible exact enc_sz _ rfl) | kernel_rfl); (first | (with_reducible exact u8s_one _) | (with_reducible assumption) | (with_reducible exact enc_one _) | kernel_rfl); intro ws _ _) | ((with_reducible apply wpl_storecell); (exact rfl); (exact rfl); infer_instance; (exact rfl); (first | (with_reducible assumption) | omega | (focus (simp; done)) | (focus (simp; omega; done)) | decide); intro ws _ _))
              have hp5 := path_len4 (seedN k) 1 (by decide) (by decide)
              refine (rksign_calls (zk := zk) (used := 1) HM.out (by omega) hlc (by decide) (by decide)).mono ?_
              rw [hp5]
              rintro e w9 ⟨B8, b8, A8, c8, rfl, _, _, _, _, hS8, hP8⟩
              obtain ⟨S8, hS⟩ : ∃ S, S = signS (seedN k) 1 m := ⟨_, rfl⟩
              obtain ⟨P8, hP⟩ : ∃ Pa, Pa = pathA (leavesS (seedN k)) 1 := ⟨_, rfl⟩
              rw [← hS] at hS8
              rw [← hP] at hP8
              have HSL8 : S8.length = 36 := by rw [hS, signS_len]
              have HPL8 : P8.length = 4 := by rw [hP]; exact hp5
              have HS8 := Lib.hid hS
              have HP8 := Lib.hid hP
              have kb8 := run_mark ⟨pubN k, 1, B8, b8, S8, A8, c8, P8⟩
              have kc8 := run_oneM ⟨pubN k, 1, B8, b8, S8, A8, c8, P8⟩
              simp only [HSL8, HPL8] at kb8
              clear hS hP
              go_wp2_with (first | go_skip | ((with_reducible apply wpl_alloc); intro z wz _ _ _) | ((with_reducible apply wpl_loadrow); (exact rfl); infer_instance; infer_instance; (first | (with_reducible assumption) | (with_reducible exact H32.size _) | (with_reducible exact enc_sz _ rfl) | kernel_rfl)) | ((with_reducible apply wpl_loadcellN); (exact rfl); infer_instance; (exact rfl)) | ((with_reducible apply wpl_storerow); (exact rfl); (exact rfl); infer_instance; infer_instance; (first | (with_reducible assumption) | (with_reducible exact H32.size _) | (with_reducible exact enc_sz _ rfl) | kernel_rfl); (first | (with_reducible assumption) | (with_reducible exact H32.size _) | (with_reducible exact enc_sz _ rfl) | kernel_rfl); (first | (with_reducible exact u8s_one _) | (with_reducible assumption) | (with_reducible exact enc_one _) | kernel_rfl); intro ws _ _) | ((with_reducible apply wpl_storecell); (exact rfl); (exact rfl); infer_instance; (exact rfl); (first | (with_reducible assumption) | omega | (focus (simp; done)) | (focus (simp; omega; done)) | decide); intro ws _ _))
              refine wp_region_N ((zrow z8 A2)) (by kernel_rfl) (fun wd _ _ => ?_)
              refine' takeH (i := 0) (v := _) rfl (by kernel_rfl) (by kernel_rfl) (by kernel_rfl) (fun _ _ _ h => h) (yields_of (by rfl) (fun w' _ => ?_)) inferInstance ?_
              rotate_left
              · (first | ((with_reducible apply (ev_fieldE (t := 74))); (exact Try.underlying74); (exact rfl); (kernel_rfl); (exact rfl); infer_instance; (exact cells_pos (by decide) (by omega))) | (go_simp; try with_reducible rfl))
              try simp only [Act.put, sA]; try simp only [sB, sC]
              refine' takeH (i := 2) (v := _) rfl (by kernel_rfl) (by kernel_rfl) (by kernel_rfl) (fun _ _ _ h => h) (yields_of (by rfl) (fun w' _ => ?_)) inferInstance ?_
              rotate_left
              · (go_simp; try with_reducible rfl)
              try simp only [Act.put, sA]; try simp only [sB, sC]
              refine' takeH (i := 3) (v := _) rfl (by kernel_rfl) (by kernel_rfl) (by kernel_rfl) (fun _ _ _ h => h) (yields_of (by rfl) (fun w' _ => ?_)) inferInstance ?_
              rotate_left
              · (go_simp; try with_reducible rfl)
              try simp only [Act.put, sA]; try simp only [sB, sC]
              refine' takeH (i := 4) (v := _) rfl (by kernel_rfl) (by kernel_rfl) (by kernel_rfl) (fun _ _ _ h => h) (yields_of (by rfl) (fun w' _ => ?_)) inferInstance ?_
              rotate_left
              · (first | ((with_reducible apply (ev_fieldE (t := 74))); (exact Try.underlying74); (exact rfl); (kernel_rfl); (exact rfl); infer_instance; (exact cells_pos (by decide) (by omega))) | (go_simp; try with_reducible rfl))
              try simp only [Act.put, sA]; try simp only [sB, sC]
              refine' takeH (i := 5) (v := _) rfl (by kernel_rfl) (by kernel_rfl) (by kernel_rfl) (fun _ _ _ h => h) (yields_of (by rfl) (fun w' _ => ?_)) inferInstance ?_
              rotate_left
              · (first | ((with_reducible apply (ev_loadpartH (t := 23) (k := 33))); (exact rfl); infer_instance; infer_instance; (exact ref_pub)))
              try simp only [Act.put, sA]; try simp only [sB, sC]
              refine' takeH (i := 6) (v := _) rfl (by kernel_rfl) (by kernel_rfl) (by kernel_rfl) (fun _ _ _ h => h) (yields_of (by rfl) (fun w' _ => ?_)) inferInstance ?_
              rotate_left
              · (first | ((with_reducible apply ev_loadrow); (exact rfl); infer_instance; infer_instance; (first | (with_reducible assumption) | (with_reducible exact H32.size _) | (with_reducible exact enc_sz _ rfl) | kernel_rfl)) | ((with_reducible apply (ev_loadhash (t := 23))); (exact rfl); infer_instance; infer_instance; (first | (with_reducible assumption) | omega)) | ((with_reducible apply ev_loadcellN); (exact rfl); infer_instance; infer_instance; (exact rfl)) | ((with_reducible apply (ev_loadE (α := MarkR) (t := 74))); infer_instance; (exact rfl); infer_instance; (exact rfl); (decide); (first | (with_reducible assumption) | omega | (focus (simp; done)) | (focus (simp; omega; done)) | decide)) | ((with_reducible apply (ev_loadF (α := MarkR))); infer_instance; (exact rfl); infer_instance; (exact rfl); (first | (with_reducible assumption) | omega | (focus (simp; done)) | (focus (simp; omega; done)) | decide); (exact rfl)) | ((with_reducible apply (ev_loadint (t := 3))); (exact rfl); infer_instance; infer_instance; (first | (with_reducible assumption) | omega)) | ((with_reducible apply (ev_loadbyte (t := 5))); (exact rfl); infer_instance; infer_instance; (first | (with_reducible assumption) | omega)) | (go_simp; try with_reducible rfl))
              try simp only [Act.put, sA]; try simp only [sB, sC]
              refine' takeH (i := 7) (v := _) rfl (by kernel_rfl) (by kernel_rfl) (by kernel_rfl) (fun _ _ _ h => h) (yields_of (by rfl) (fun w' _ => ?_)) inferInstance ?_
              rotate_left
              · (first | ((with_reducible apply ev_build); exact kb8 _) | (go_simp; try with_reducible rfl))
              try simp only [Act.put, sA]; try simp only [sB, sC]
              refine wpAnyH_ready (rs := [1, 8]) (by kernel_rfl) (by simp) (AllReadyH.cons rfl (fun K_ hK_ => ?_) (AllReadyH.cons rfl (fun K_ hK_ => ?_) AllReadyH.nil))
              focus
                rw [if_pos (by kernel_rfl)]
                refine wpr_of_list ?_
                (first | ((with_reducible apply (stop_dst (dst := some 74))); (try simp only [Act.put, sA, sB, sC]); ((with_reducible apply (wpl_build (dst := some 74))); (exact kb8 _))) | ((with_reducible apply (stop_dst (dst := some 75))); (try simp only [Act.put, sA, sB, sC]); ((with_reducible apply (wpl_bslice (dst := some 75))); (exact kc8 _); intro zm8 wb _ _ _)) | ((with_reducible apply (wpl_appendR (α := MarkR))); (exact rfl); (exact rfl); infer_instance; infer_instance; (exact markRow (r := ⟨pubN k, 1, B8, b8, S8, A8, c8, P8⟩) inferInstance); (exact rfl); (exact rfl); (exact hnm98); (decide); (decide); intro A3 cm3 wa3 _ _ _ hcap3) | ((with_reducible apply wpl_loadrow); (exact rfl); infer_instance; infer_instance; (first | (with_reducible assumption) | (with_reducible exact H32.size _) | (with_reducible exact enc_sz _ rfl) | kernel_rfl)) | ((with_reducible apply wpl_loadcellN); (exact rfl); infer_instance; (exact rfl)) | ((with_reducible apply (wpl_loadhash (t := 23))); (exact rfl); infer_instance; infer_instance; (first | (with_reducible assumption) | omega)) | ((with_reducible apply (wpl_loadE (α := MarkR) (t := 74))); infer_instance; (exact rfl); infer_instance; (exact rfl); (decide); (first | (with_reducible assumption) | omega | (focus (simp; done)) | (focus (simp; omega; done)) | decide)) | ((with_reducible apply (wpl_loadF (α := MarkR))); infer_instance; (exact rfl); infer_instance; (exact rfl); (first | (with_reducible assumption) | omega | (focus (simp; done)) | (focus (simp; omega; done)) | decide); (exact rfl)) | ((with_reducible apply (wpl_loadint (t := 3))); (exact rfl); infer_instance; infer_instance; (first | (with_reducible assumption) | omega)) | ((with_reducible apply (wpl_loadbyte (t := 5))); (exact rfl); infer_instance; infer_instance; (first | (with_reducible assumption) | omega)))
                refine wpList_nil ?_
                unfold onlyN
                refine hK_.out _ _ inferInstance (fun _ => ?_)
                clear hK_ K_
                try simp only [Act.put, sA]; try simp only [sB, sC]
                refine goH (i := 8) (by kernel_rfl) rfl (fun K_ hK_ => ?_)
                rw [if_pos (by kernel_rfl)]
                refine wpr_of_list ?_
                (first | ((with_reducible apply (stop_dst (dst := some 74))); (try simp only [Act.put, sA, sB, sC]); ((with_reducible apply (wpl_build (dst := some 74))); (exact kb8 _))) | ((with_reducible apply (stop_dst (dst := some 75))); (try simp only [Act.put, sA, sB, sC]); ((with_reducible apply (wpl_bslice (dst := some 75))); (exact kc8 _); intro zm8 wb _ _ _)) | ((with_reducible apply (wpl_appendR (α := MarkR))); (exact rfl); (exact rfl); infer_instance; infer_instance; (exact markRow (r := ⟨pubN k, 1, B8, b8, S8, A8, c8, P8⟩) inferInstance); (exact rfl); (exact rfl); (exact hnm98); (decide); (decide); intro A3 cm3 wa3 _ _ _ hcap3))
                refine wpList_nil ?_
                unfold onlyN
                refine hK_.out _ _ inferInstance (fun _ => ?_)
                clear hK_ K_
                try simp only [Act.put, sA]; try simp only [sB, sC]
                refine goH (i := 9) (by kernel_rfl) rfl (fun K_ hK_ => ?_)
                rw [if_pos (by kernel_rfl)]
                refine wpr_of_list ?_
                (first | ((with_reducible apply (stop_dst (dst := some 74))); (try simp only [Act.put, sA, sB, sC]); ((with_reducible apply (wpl_build (dst := some 74))); (exact kb8 _))) | ((with_reducible apply (stop_dst (dst := some 75))); (try simp only [Act.put, sA, sB, sC]); ((with_reducible apply (wpl_bslice (dst := some 75))); (exact kc8 _); intro zm8 wb _ _ _)) | ((with_reducible apply (wpl_appendR (α := MarkR))); (exact rfl); (exact rfl); infer_instance; infer_instance; (exact markRow (r := ⟨pubN k, 1, B8, b8, S8, A8, c8, P8⟩) inferInstance); (exact rfl); (exact rfl); (exact hnm98); (decide); (decide); intro A3 cm3 wa3 _ _ _ hcap3) | ((with_reducible apply wpl_appendB); (exact rfl); (exact rfl); infer_instance; (first | exact inferInstance | exact ⟨Own.nil _ _ _⟩); infer_instance; (first | (with_reducible assumption) | (with_reducible exact H32.len _) | (focus (simp; done)) | omega); (first | (with_reducible assumption) | omega); intro A' c' wa _ _ _ hcap) | ((with_reducible apply wpl_appendH); (exact rfl); (exact rfl); infer_instance; (first | exact inferInstance | exact ⟨Own.nil _ _ _⟩); infer_instance; (first | (with_reducible assumption) | omega); intro A' c' wa _ _ _ hcap))
                refine wpList_nil ?_
                unfold onlyN
                refine hK_.out _ _ inferInstance (fun _ => ?_)
                clear hK_ K_
                try simp only [Act.put, sA]; try simp only [sB, sC]
                refine' takeH (i := 10) (v := _) rfl (by kernel_rfl) (by kernel_rfl) (by kernel_rfl) (fun _ _ _ h => h) (yields_of (by rfl) (fun w' _ => ?_)) inferInstance ?_
                rotate_left
                · (first | ((with_reducible apply (ev_fieldE (t := 74))); (exact Try.underlying74); (exact rfl); (kernel_rfl); (exact rfl); infer_instance; (exact cells_pos (by decide) (by omega))) | (go_simp; try with_reducible rfl))
                try simp only [Act.put, sA]; try simp only [sB, sC]
                refine goH (i := 11) (by kernel_rfl) rfl (fun K_ hK_ => ?_)
                rw [if_pos (by kernel_rfl)]
                refine wpr_of_list ?_
                (first | ((with_reducible apply (stop_dst (dst := some 74))); (try simp only [Act.put, sA, sB, sC]); ((with_reducible apply (wpl_build (dst := some 74))); (exact kb8 _))) | ((with_reducible apply (stop_dst (dst := some 75))); (try simp only [Act.put, sA, sB, sC]); ((with_reducible apply (wpl_bslice (dst := some 75))); (exact kc8 _); intro zm8 wb _ _ _)) | ((with_reducible apply (wpl_appendR (α := MarkR))); (exact rfl); (exact rfl); infer_instance; infer_instance; (exact markRow (r := ⟨pubN k, 1, B8, b8, S8, A8, c8, P8⟩) inferInstance); (exact rfl); (exact rfl); (exact hnm98); (decide); (decide); intro A3 cm3 wa3 _ _ _ hcap3) | ((with_reducible apply wpl_storerow); (exact rfl); (exact rfl); infer_instance; infer_instance; (first | (with_reducible assumption) | (with_reducible exact H32.size _) | (with_reducible exact enc_sz _ rfl) | kernel_rfl); (first | (with_reducible assumption) | (with_reducible exact H32.size _) | (with_reducible exact enc_sz _ rfl) | kernel_rfl); (first | (with_reducible exact u8s_one _) | (with_reducible assumption) | (with_reducible exact enc_one _) | kernel_rfl); intro ws _ _) | ((with_reducible apply wpl_storecell); (exact rfl); (exact rfl); infer_instance; (exact rfl); (first | (with_reducible assumption) | omega | (focus (simp; done)) | (focus (simp; omega; done)) | decide); intro ws _ _) | ((with_reducible apply (wpl_storehash (t := 23))); (exact rfl); (exact rfl); infer_instance; infer_instance; (first | (with_reducible assumption) | omega | (focus (simp; done)) | (focus (simp; omega; done)) | decide); intro ws _ _) | ((with_reducible apply (wpl_storeint (t := 3))); (exact rfl); (exact rfl); infer_instance; (first | (with_reducible assumption) | omega); intro ws _ _) | ((with_reducible apply (wpl_storebyte (t := 5))); (exact rfl); (exact rfl); infer_instance; (first | (with_reducible assumption) | omega | (focus (simp; done)) | (focus (simp; omega; done)) | decide); (constructor <;> omega); intro ws _ _))
                refine wpList_nil ?_
                unfold onlyN
                refine hK_.out _ _ inferInstance (fun _ => ?_)
                clear hK_ K_
                try simp only [Act.put]
                refine wpAnyH_done (by kernel_rfl) ?_ _
              rotate_left 1
              focus
                rw [if_pos (by kernel_rfl)]
                refine wpr_of_list ?_
                (first | ((with_reducible apply (stop_dst (dst := some 74))); (try simp only [Act.put, sA, sB, sC]); ((with_reducible apply (wpl_build (dst := some 74))); (exact kb8 _))) | ((with_reducible apply (stop_dst (dst := some 75))); (try simp only [Act.put, sA, sB, sC]); ((with_reducible apply (wpl_bslice (dst := some 75))); (exact kc8 _); intro zm8 wb _ _ _)) | ((with_reducible apply (wpl_appendR (α := MarkR))); (exact rfl); (exact rfl); infer_instance; infer_instance; (exact markRow (r := ⟨pubN k, 1, B8, b8, S8, A8, c8, P8⟩) inferInstance); (exact rfl); (exact rfl); (exact hnm98); (decide); (decide); intro A3 cm3 wa3 _ _ _ hcap3))
                refine wpList_nil ?_
                unfold onlyN
                refine hK_.out _ _ inferInstance (fun _ => ?_)
                clear hK_ K_
                try simp only [Act.put, sA]; try simp only [sB, sC]
                refine goH (i := 1) (by kernel_rfl) rfl (fun K_ hK_ => ?_)
                rw [if_pos (by kernel_rfl)]
                refine wpr_of_list ?_
                (first | ((with_reducible apply (stop_dst (dst := some 74))); (try simp only [Act.put, sA, sB, sC]); ((with_reducible apply (wpl_build (dst := some 74))); (exact kb8 _))) | ((with_reducible apply (stop_dst (dst := some 75))); (try simp only [Act.put, sA, sB, sC]); ((with_reducible apply (wpl_bslice (dst := some 75))); (exact kc8 _); intro zm8 wb _ _ _)) | ((with_reducible apply (wpl_appendR (α := MarkR))); (exact rfl); (exact rfl); infer_instance; infer_instance; (exact markRow (r := ⟨pubN k, 1, B8, b8, S8, A8, c8, P8⟩) inferInstance); (exact rfl); (exact rfl); (exact hnm98); (decide); (decide); intro A3 cm3 wa3 _ _ _ hcap3) | ((with_reducible apply wpl_loadrow); (exact rfl); infer_instance; infer_instance; (first | (with_reducible assumption) | (with_reducible exact H32.size _) | (with_reducible exact enc_sz _ rfl) | kernel_rfl)) | ((with_reducible apply wpl_loadcellN); (exact rfl); infer_instance; (exact rfl)) | ((with_reducible apply (wpl_loadhash (t := 23))); (exact rfl); infer_instance; infer_instance; (first | (with_reducible assumption) | omega)) | ((with_reducible apply (wpl_loadE (α := MarkR) (t := 74))); infer_instance; (exact rfl); infer_instance; (exact rfl); (decide); (first | (with_reducible assumption) | omega | (focus (simp; done)) | (focus (simp; omega; done)) | decide)) | ((with_reducible apply (wpl_loadF (α := MarkR))); infer_instance; (exact rfl); infer_instance; (exact rfl); (first | (with_reducible assumption) | omega | (focus (simp; done)) | (focus (simp; omega; done)) | decide); (exact rfl)) | ((with_reducible apply (wpl_loadint (t := 3))); (exact rfl); infer_instance; infer_instance; (first | (with_reducible assumption) | omega)) | ((with_reducible apply (wpl_loadbyte (t := 5))); (exact rfl); infer_instance; infer_instance; (first | (with_reducible assumption) | omega)))
                refine wpList_nil ?_
                unfold onlyN
                refine hK_.out _ _ inferInstance (fun _ => ?_)
                clear hK_ K_
                try simp only [Act.put, sA]; try simp only [sB, sC]
                refine goH (i := 9) (by kernel_rfl) rfl (fun K_ hK_ => ?_)
                rw [if_pos (by kernel_rfl)]
                refine wpr_of_list ?_
                (first | ((with_reducible apply (stop_dst (dst := some 74))); (try simp only [Act.put, sA, sB, sC]); ((with_reducible apply (wpl_build (dst := some 74))); (exact kb8 _))) | ((with_reducible apply (stop_dst (dst := some 75))); (try simp only [Act.put, sA, sB, sC]); ((with_reducible apply (wpl_bslice (dst := some 75))); (exact kc8 _); intro zm8 wb _ _ _)) | ((with_reducible apply (wpl_appendR (α := MarkR))); (exact rfl); (exact rfl); infer_instance; infer_instance; (exact markRow (r := ⟨pubN k, 1, B8, b8, S8, A8, c8, P8⟩) inferInstance); (exact rfl); (exact rfl); (exact hnm98); (decide); (decide); intro A3 cm3 wa3 _ _ _ hcap3) | ((with_reducible apply wpl_appendB); (exact rfl); (exact rfl); infer_instance; (first | exact inferInstance | exact ⟨Own.nil _ _ _⟩); infer_instance; (first | (with_reducible assumption) | (with_reducible exact H32.len _) | (focus (simp; done)) | omega); (first | (with_reducible assumption) | omega); intro A' c' wa _ _ _ hcap) | ((with_reducible apply wpl_appendH); (exact rfl); (exact rfl); infer_instance; (first | exact inferInstance | exact ⟨Own.nil _ _ _⟩); infer_instance; (first | (with_reducible assumption) | omega); intro A' c' wa _ _ _ hcap))
                refine wpList_nil ?_
                unfold onlyN
                refine hK_.out _ _ inferInstance (fun _ => ?_)
                clear hK_ K_
                try simp only [Act.put, sA]; try simp only [sB, sC]
                refine' takeH (i := 10) (v := _) rfl (by kernel_rfl) (by kernel_rfl) (by kernel_rfl) (fun _ _ _ h => h) (yields_of (by rfl) (fun w' _ => ?_)) inferInstance ?_
                rotate_left
                · (first | ((with_reducible apply (ev_fieldE (t := 74))); (exact Try.underlying74); (exact rfl); (kernel_rfl); (exact rfl); infer_instance; (exact cells_pos (by decide) (by omega))) | (go_simp; try with_reducible rfl))
                try simp only [Act.put, sA]; try simp only [sB, sC]
                refine goH (i := 11) (by kernel_rfl) rfl (fun K_ hK_ => ?_)
                rw [if_pos (by kernel_rfl)]
                refine wpr_of_list ?_
                (first | ((with_reducible apply (stop_dst (dst := some 74))); (try simp only [Act.put, sA, sB, sC]); ((with_reducible apply (wpl_build (dst := some 74))); (exact kb8 _))) | ((with_reducible apply (stop_dst (dst := some 75))); (try simp only [Act.put, sA, sB, sC]); ((with_reducible apply (wpl_bslice (dst := some 75))); (exact kc8 _); intro zm8 wb _ _ _)) | ((with_reducible apply (wpl_appendR (α := MarkR))); (exact rfl); (exact rfl); infer_instance; infer_instance; (exact markRow (r := ⟨pubN k, 1, B8, b8, S8, A8, c8, P8⟩) inferInstance); (exact rfl); (exact rfl); (exact hnm98); (decide); (decide); intro A3 cm3 wa3 _ _ _ hcap3) | ((with_reducible apply wpl_storerow); (exact rfl); (exact rfl); infer_instance; infer_instance; (first | (with_reducible assumption) | (with_reducible exact H32.size _) | (with_reducible exact enc_sz _ rfl) | kernel_rfl); (first | (with_reducible assumption) | (with_reducible exact H32.size _) | (with_reducible exact enc_sz _ rfl) | kernel_rfl); (first | (with_reducible exact u8s_one _) | (with_reducible assumption) | (with_reducible exact enc_one _) | kernel_rfl); intro ws _ _) | ((with_reducible apply wpl_storecell); (exact rfl); (exact rfl); infer_instance; (exact rfl); (first | (with_reducible assumption) | omega | (focus (simp; done)) | (focus (simp; omega; done)) | decide); intro ws _ _) | ((with_reducible apply (wpl_storehash (t := 23))); (exact rfl); (exact rfl); infer_instance; infer_instance; (first | (with_reducible assumption) | omega | (focus (simp; done)) | (focus (simp; omega; done)) | decide); intro ws _ _) | ((with_reducible apply (wpl_storeint (t := 3))); (exact rfl); (exact rfl); infer_instance; (first | (with_reducible assumption) | omega); intro ws _ _) | ((with_reducible apply (wpl_storebyte (t := 5))); (exact rfl); (exact rfl); infer_instance; (first | (with_reducible assumption) | omega | (focus (simp; done)) | (focus (simp; omega; done)) | decide); (constructor <;> omega); intro ws _ _))
                refine wpList_nil ?_
                unfold onlyN
                refine hK_.out _ _ inferInstance (fun _ => ?_)
                clear hK_ K_
                try simp only [Act.put]
                refine wpAnyH_done (by kernel_rfl) ?_ _
              rotate_left 1
              all_goals
                have nA : Near w8 A2 A3 := Near.grew w8 _ A2 A3
                have nK : Near w8 K2 K2 := Near.refl _ _
                have c1 : Chg (wset2 z12 zk z8 z9 A2 K2) w8 ws := (inferInstance : Ch (wset2 z12 zk z8 z9 A2 K2) w8 ws).out
                have HMO1 : MkOk ws z8 z9 A3 K2 l2 := HMO9b.out.next2 HZ.out c1 nA nK
                have q1B8A3 : OffA (only z9) B8 := inferInstance
                have q2B8A3 : OffA (rowOf K2) B8 := inferInstance
                have q3B8A3 : OffA (only z8) B8 := inferInstance
                have q4B8A3 : OffA (rowOf A3) B8 := inferInstance
                have q1A8A3 : OffA (only z9) A8 := inferInstance
                have q2A8A3 : OffA (rowOf K2) A8 := inferInstance
                have q3A8A3 : OffA (only z8) A8 := inferInstance
                have q4A8A3 : OffA (rowOf A3) A8 := inferInstance
                have uy6B8A3 : OffA (only y6) B8 := inferInstance
                have uy7B8A3 : OffA (only y7) B8 := inferInstance
                have uy6A8A3 : OffA (only y6) A8 := inferInstance
                have uy7A8A3 : OffA (only y7) A8 := inferInstance
                have HYY2 : Hid (∀ r ∈ l2 ++ [⟨pubN k, 1, B8, b8, S8, A8, c8, P8⟩], OffA (both y6 y7) r.A ∧ OffA (both y6 y7) r.B) := Lib.hid (fun r hr => by
                  rcases List.mem_append.1 hr with h | h
                  · exact HYY9.out r h
                  · rw [List.mem_singleton.1 h]
                    exact ⟨offBoth uy6B8A3 uy7B8A3, offBoth uy6A8A3 uy7A8A3⟩)
                have HMO2 : Hid (MkOk ws z8 z9 A3 K2 (l2 ++ [⟨pubN k, 1, B8, b8, S8, A8, c8, P8⟩])) := Lib.hid (fun r hr => by
                  rcases List.mem_append.1 hr with h | h
                  · exact HMO1 r h
                  · rw [List.mem_singleton.1 h]
                    exact ⟨⟨(inferInstance : HR ws B8 (cellsOf S8)).out, (inferInstance : HR ws A8 (cellsOf P8)).out⟩, apart_four q1B8A3 q2B8A3 q3B8A3 q4B8A3, apart_four q1A8A3 q2A8A3 q3A8A3 q4A8A3⟩)
                have HCT2 : Hid ((l2 ++ [(⟨pubN k, 1, B8, b8, S8, A8, c8, P8⟩ : MarkR)]).map markOf = allSigs m which true (k + 1)) := Lib.hid (by
                  rw [List.map_append, HCT9.out, allSigs_two m which true k hb hbt, HS8.out, HP8.out]
                  rfl)
                have HLN2 : Hid ((l2 ++ [(⟨pubN k, 1, B8, b8, S8, A8, c8, P8⟩ : MarkR)]).length = nm + 1 + 1) := Lib.hid (by rw [List.length_append, HLN9.out]; rfl)
                clear HMO9b HCT9 c1 nK nA HMO1
                go_wp2_with (first | go_skip | ((with_reducible apply wpl_alloc); intro z wz _ _ _) | ((with_reducible apply wpl_loadrow); (exact rfl); infer_instance; infer_instance; (first | (with_reducible assumption) | (with_reducible exact H32.size _) | (with_reducible exact enc_sz _ rfl) | kernel_rfl)) | ((with_reducible apply wpl_loadcellN); (exact rfl); infer_instance; (exact rfl)) | ((with_reducible apply wpl_storerow); (exact rfl); (exact rfl); infer_instance; infer_instance; (first | (with_reducible assumption) | (with_reducible exact H32.size _) | (with_reducible exact enc_sz _ rfl) | kernel_rfl); (first | (with_reducible assumption) | (with_reducible exact H32.size _) | (with_reducible exact enc_sz _ rfl) | kernel_rfl); (first | (with_reducible exact u8s_one _) | (with_reducible assumption) | (with_reducible exact enc_one _) | kernel_rfl); intro ws _ _) | ((with_reducible apply wpl_storecell); (exact rfl); (exact rfl); infer_instance; (exact rfl); (first | (with_reducible assumption) | omega | (focus (simp; done)) | (focus (simp; omega; done)) | decide); intro ws _ _))
                refine ⟨⟨k + 1, nm + 1 + 1, cm3, ck2, A3, K2, _, by omega, by omega, by omega, by omega, by go_num, stepN, inferInstance, inferInstance, inferInstance, inferInstance, inferInstance, inferInstance, inferInstance, inferInstance, inferInstance, inferInstance, inferInstance, inferInstance, inferInstance, inferInstance, inferInstance, inferInstance, inferInstance, inferInstance, HMO2, HLN2, HCT2, HYY2⟩, by simp [intOf]; omega⟩
            · have hbf : (twice && k == 0) = false := by simpa using hbt
              clear hbt HAL
              have nA : Near wr A A2 := Near.grew wr _ A A2
              have nK : Near wr K K2 := Near.grew wr _ K K2
              have c1 : Chg (wset z8 z9 A K) wr ws := (inferInstance : Ch (wset z8 z9 A K) wr ws).out
              have HMO1 : MkOk ws z8 z9 A2 K2 l := HMO.out.next c1 nA nK
              have q1B7A2 : OffA (only z9) B7 := inferInstance
              have q2B7A2 : OffA (rowOf K2) B7 := inferInstance
              have q3B7A2 : OffA (only z8) B7 := inferInstance
              have q4B7A2 : OffA (rowOf A2) B7 := inferInstance
              have q1A7A2 : OffA (only z9) A7 := inferInstance
              have q2A7A2 : OffA (rowOf K2) A7 := inferInstance
              have q3A7A2 : OffA (only z8) A7 := inferInstance
              have q4A7A2 : OffA (rowOf A2) A7 := inferInstance
              have uy6B7A2 : OffA (only y6) B7 := inferInstance
              have uy7B7A2 : OffA (only y7) B7 := inferInstance
              have uy6A7A2 : OffA (only y6) A7 := inferInstance
              have uy7A7A2 : OffA (only y7) A7 := inferInstance
              have HYY2 : Hid (∀ r ∈ l ++ [⟨pubN k, 0, B7, b7, S7, A7, c7, P7⟩], OffA (both y6 y7) r.A ∧ OffA (both y6 y7) r.B) := Lib.hid (fun r hr => by
                rcases List.mem_append.1 hr with h | h
                · exact HYY.out r h
                · rw [List.mem_singleton.1 h]
                  exact ⟨offBoth uy6B7A2 uy7B7A2, offBoth uy6A7A2 uy7A7A2⟩)
              have HMO2 : Hid (MkOk ws z8 z9 A2 K2 (l ++ [⟨pubN k, 0, B7, b7, S7, A7, c7, P7⟩])) := Lib.hid (fun r hr => by
                rcases List.mem_append.1 hr with h | h
                · exact HMO1 r h
                · rw [List.mem_singleton.1 h]
                  exact ⟨⟨(inferInstance : HR ws B7 (cellsOf S7)).out, (inferInstance : HR ws A7 (cellsOf P7)).out⟩, apart_four q1B7A2 q2B7A2 q3B7A2 q4B7A2, apart_four q1A7A2 q2A7A2 q3A7A2 q4A7A2⟩)
              have HCT2 : Hid ((l ++ [(⟨pubN k, 0, B7, b7, S7, A7, c7, P7⟩ : MarkR)]).map markOf = allSigs m which twice (k + 1)) := Lib.hid (by
                rw [List.map_append, HCT.out, allSigs_one m which twice k hb hbf, HS7.out, HP7.out]
                rfl)
              have HLN2 : Hid ((l ++ [(⟨pubN k, 0, B7, b7, S7, A7, c7, P7⟩ : MarkR)]).length = nm + 1) := Lib.hid (by rw [List.length_append, HLN.out]; rfl)
              clear HMO HCT c1 nK nA HMO1
              cases twice
              case false =>
                go_wp2_with (first | go_skip | ((with_reducible apply wpl_alloc); intro z wz _ _ _) | ((with_reducible apply wpl_loadrow); (exact rfl); infer_instance; infer_instance; (first | (with_reducible assumption) | (with_reducible exact H32.size _) | (with_reducible exact enc_sz _ rfl) | kernel_rfl)) | ((with_reducible apply wpl_loadcellN); (exact rfl); infer_instance; (exact rfl)) | ((with_reducible apply wpl_storerow); (exact rfl); (exact rfl); infer_instance; infer_instance; (first | (with_reducible assumption) | (with_reducible exact H32.size _) | (with_reducible exact enc_sz _ rfl) | kernel_rfl); (first | (with_reducible assumption) | (with_reducible exact H32.size _) | (with_reducible exact enc_sz _ rfl) | kernel_rfl); (first | (with_reducible exact u8s_one _) | (with_reducible assumption) | (with_reducible exact enc_one _) | kernel_rfl); intro ws _ _) | ((with_reducible apply wpl_storecell); (exact rfl); (exact rfl); infer_instance; (exact rfl); (first | (with_reducible assumption) | omega | (focus (simp; done)) | (focus (simp; omega; done)) | decide); intro ws _ _))
                refine ⟨⟨k + 1, nm + 1, cm2, ck2, A2, K2, _, by omega, by omega, by omega, by omega, by go_num, stepN, inferInstance, inferInstance, inferInstance, inferInstance, inferInstance, inferInstance, inferInstance, inferInstance, inferInstance, inferInstance, inferInstance, inferInstance, inferInstance, inferInstance, inferInstance, inferInstance, inferInstance, inferInstance, HMO2, HLN2, HCT2, HYY2⟩, by simp [intOf]; omega⟩
              case true =>
                have hk0I : 0 < (k : Int) := by
                  simp at hbf
                  omega
                go_wp2_with (first | go_skip | ((with_reducible apply wpl_alloc); intro z wz _ _ _) | ((with_reducible apply wpl_loadrow); (exact rfl); infer_instance; infer_instance; (first | (with_reducible assumption) | (with_reducible exact H32.size _) | (with_reducible exact enc_sz _ rfl) | kernel_rfl)) | ((with_reducible apply wpl_loadcellN); (exact rfl); infer_instance; (exact rfl)) | ((with_reducible apply wpl_storerow); (exact rfl); (exact rfl); infer_instance; infer_instance; (first | (with_reducible assumption) | (with_reducible exact H32.size _) | (with_reducible exact enc_sz _ rfl) | kernel_rfl); (first | (with_reducible assumption) | (with_reducible exact H32.size _) | (with_reducible exact enc_sz _ rfl) | kernel_rfl); (first | (with_reducible exact u8s_one _) | (with_reducible assumption) | (with_reducible exact enc_one _) | kernel_rfl); intro ws _ _) | ((with_reducible apply wpl_storecell); (exact rfl); (exact rfl); infer_instance; (exact rfl); (first | (with_reducible assumption) | omega | (focus (simp; done)) | (focus (simp; omega; done)) | decide); intro ws _ _))
                refine ⟨⟨k + 1, nm + 1, cm2, ck2, A2, K2, _, by omega, by omega, by omega, by omega, by go_num, stepN, inferInstance, inferInstance, inferInstance, inferInstance, inferInstance, inferInstance, inferInstance, inferInstance, inferInstance, inferInstance, inferInstance, inferInstance, inferInstance, inferInstance, inferInstance, inferInstance, inferInstance, inferInstance, HMO2, HLN2, HCT2, HYY2⟩, by simp [intOf]; omega⟩
    · have hk3 : ¬ (k : Int) < 3 := by omega
      have hk3e : k = 3 := by omega
      subst hk3e
      have h8 : HB wr z8 61 #[.slice M nb cb, .slice A nm cm] := inferInstance
      have h9 : HB wr z9 63 #[.slice K 3 ck, .int .i64 0] := inferInstance
      go_wp2_with (first | go_skip | ((with_reducible apply wpl_alloc); intro z wz _ _ _) | ((with_reducible apply wpl_loadrow); (exact rfl); infer_instance; infer_instance; (first | (with_reducible assumption) | (with_reducible exact H32.size _) | (with_reducible exact enc_sz _ rfl) | kernel_rfl)) | ((with_reducible apply wpl_loadcellN); (exact rfl); infer_instance; (exact rfl)) | ((with_reducible apply wpl_storerow); (exact rfl); (exact rfl); infer_instance; infer_instance; (first | (with_reducible assumption) | (with_reducible exact H32.size _) | (with_reducible exact enc_sz _ rfl) | kernel_rfl); (first | (with_reducible assumption) | (with_reducible exact H32.size _) | (with_reducible exact enc_sz _ rfl) | kernel_rfl); (first | (with_reducible exact u8s_one _) | (with_reducible assumption) | (with_reducible exact enc_one _) | kernel_rfl); intro ws _ _) | ((with_reducible apply wpl_storecell); (exact rfl); (exact rfl); infer_instance; (exact rfl); (first | (with_reducible assumption) | omega | (focus (simp; done)) | (focus (simp; omega; done)) | decide); intro ws _ _))
      refine wp_region_N ((both y6 y7)) (by kernel_rfl) (fun wd _ _ => ?_)
      refine' takeH (i := 0) (v := _) rfl (by kernel_rfl) (by kernel_rfl) (by kernel_rfl) (fun _ _ _ h => h) (yields_of (by rfl) (fun w' _ => ?_)) inferInstance ?_
      rotate_left
      · (first | ((with_reducible apply ev_loadrow); (exact rfl); infer_instance; infer_instance; (first | (with_reducible assumption) | (with_reducible exact H32.size _) | (with_reducible exact enc_sz _ rfl) | kernel_rfl)) | ((with_reducible apply (ev_loadhash (t := 23))); (exact rfl); infer_instance; infer_instance; (first | (with_reducible assumption) | omega)) | ((with_reducible apply ev_loadcellN); (exact rfl); infer_instance; infer_instance; (exact rfl)) | ((with_reducible apply (ev_loadE (α := MarkR) (t := 74))); infer_instance; (exact rfl); infer_instance; (exact rfl); (decide); (first | (with_reducible assumption) | omega | (focus (simp; done)) | (focus (simp; omega; done)) | decide)) | ((with_reducible apply (ev_loadF (α := MarkR))); infer_instance; (exact rfl); infer_instance; (exact rfl); (first | (with_reducible assumption) | omega | (focus (simp; done)) | (focus (simp; omega; done)) | decide); (exact rfl)) | ((with_reducible apply (ev_loadint (t := 3))); (exact rfl); infer_instance; infer_instance; (first | (with_reducible assumption) | omega)) | ((with_reducible apply (ev_loadbyte (t := 5))); (exact rfl); infer_instance; infer_instance; (first | (with_reducible assumption) | omega)) | (go_simp; try with_reducible rfl))
      try simp only [Act.put, sA]; try simp only [sB, sC]
      refine' takeH (i := 1) (v := _) rfl (by kernel_rfl) (by kernel_rfl) (by kernel_rfl) (fun _ _ _ h => h) (yields_of (by rfl) (fun w' _ => ?_)) inferInstance ?_
      rotate_left
      · (first | ((with_reducible apply ev_loadrow); (exact rfl); infer_instance; infer_instance; (first | (with_reducible assumption) | (with_reducible exact H32.size _) | (with_reducible exact enc_sz _ rfl) | kernel_rfl)) | ((with_reducible apply (ev_loadhash (t := 23))); (exact rfl); infer_instance; infer_instance; (first | (with_reducible assumption) | omega)) | ((with_reducible apply ev_loadcellN); (exact rfl); infer_instance; infer_instance; (exact rfl)) | ((with_reducible apply (ev_loadE (α := MarkR) (t := 74))); infer_instance; (exact rfl); infer_instance; (exact rfl); (decide); (first | (with_reducible assumption) | omega | (focus (simp; done)) | (focus (simp; omega; done)) | decide)) | ((with_reducible apply (ev_loadF (α := MarkR))); infer_instance; (exact rfl); infer_instance; (exact rfl); (first | (with_reducible assumption) | omega | (focus (simp; done)) | (focus (simp; omega; done)) | decide); (exact rfl)) | ((with_reducible apply (ev_loadint (t := 3))); (exact rfl); infer_instance; infer_instance; (first | (with_reducible assumption) | omega)) | ((with_reducible apply (ev_loadbyte (t := 5))); (exact rfl); infer_instance; infer_instance; (first | (with_reducible assumption) | omega)) | (go_simp; try with_reducible rfl))
      try simp only [Act.put, sA]; try simp only [sB, sC]
      refine goH (i := 2) (by kernel_rfl) rfl (fun K_ hK_ => ?_)
      rw [if_pos (by kernel_rfl)]
      refine wpr_of_list ?_
      (first | ((with_reducible apply wpl_storerow); (exact rfl); (exact rfl); infer_instance; infer_instance; (first | (with_reducible assumption) | (with_reducible exact H32.size _) | (with_reducible exact enc_sz _ rfl) | kernel_rfl); (first | (with_reducible assumption) | (with_reducible exact H32.size _) | (with_reducible exact enc_sz _ rfl) | kernel_rfl); (first | (with_reducible exact u8s_one _) | (with_reducible assumption) | (with_reducible exact enc_one _) | kernel_rfl); intro ws _ _) | ((with_reducible apply wpl_storecell); (exact rfl); (exact rfl); infer_instance; (exact rfl); (first | (with_reducible assumption) | omega | (focus (simp; done)) | (focus (simp; omega; done)) | decide); intro ws _ _) | ((with_reducible apply (wpl_storehash (t := 23))); (exact rfl); (exact rfl); infer_instance; infer_instance; (first | (with_reducible assumption) | omega | (focus (simp; done)) | (focus (simp; omega; done)) | decide); intro ws _ _) | ((with_reducible apply (wpl_storeint (t := 3))); (exact rfl); (exact rfl); infer_instance; (first | (with_reducible assumption) | omega); intro ws _ _) | ((with_reducible apply (wpl_storebyte (t := 5))); (exact rfl); (exact rfl); infer_instance; (first | (with_reducible assumption) | omega | (focus (simp; done)) | (focus (simp; omega; done)) | decide); (constructor <;> omega); intro ws _ _))
      refine wpList_nil ?_
      unfold onlyN
      refine hK_.out _ _ inferInstance (fun _ => ?_)
      clear hK_ K_
      try simp only [Act.put]
      refine goH (i := 3) (by kernel_rfl) rfl (fun K_ hK_ => ?_)
      rw [if_pos (by kernel_rfl)]
      refine wpr_of_list ?_
      (first | ((with_reducible apply wpl_storerow); (exact rfl); (exact rfl); infer_instance; infer_instance; (first | (with_reducible assumption) | (with_reducible exact H32.size _) | (with_reducible exact enc_sz _ rfl) | kernel_rfl); (first | (with_reducible assumption) | (with_reducible exact H32.size _) | (with_reducible exact enc_sz _ rfl) | kernel_rfl); (first | (with_reducible exact u8s_one _) | (with_reducible assumption) | (with_reducible exact enc_one _) | kernel_rfl); intro ws _ _) | ((with_reducible apply wpl_storecell); (exact rfl); (exact rfl); infer_instance; (exact rfl); (first | (with_reducible assumption) | omega | (focus (simp; done)) | (focus (simp; omega; done)) | decide); intro ws _ _) | ((with_reducible apply (wpl_storehash (t := 23))); (exact rfl); (exact rfl); infer_instance; infer_instance; (first | (with_reducible assumption) | omega | (focus (simp; done)) | (focus (simp; omega; done)) | decide); intro ws _ _) | ((with_reducible apply (wpl_storeint (t := 3))); (exact rfl); (exact rfl); infer_instance; (first | (with_reducible assumption) | omega); intro ws _ _) | ((with_reducible apply (wpl_storebyte (t := 5))); (exact rfl); (exact rfl); infer_instance; (first | (with_reducible assumption) | omega | (focus (simp; done)) | (focus (simp; omega; done)) | decide); (constructor <;> omega); intro ws _ _))
      refine wpList_nil ?_
      unfold onlyN
      refine hK_.out _ _ inferInstance (fun _ => ?_)
      clear hK_ K_
      try simp only [Act.put]
      refine wpAnyH_done (by kernel_rfl) ?_ _
      all_goals
        have c1 : Chg (both y6 y7) wr ws := (inferInstance : Ch (both y6 y7) wr ws).out
        have hy6N : OffA (only y6) A := inferInstance
        have h6 : HB ws y6 61 #[.slice M nb cb, .slice A nm cm] := inferInstance
        have h7 : HB ws y7 63 #[.slice K 3 ck, .int .i64 0] := inferInstance
        have hAA : HR ws A (cellsOf l) := inferInstance
        have hKK : HR ws K (cellsOf (pubsN 3)) := inferInstance
        go_wp2_with (first | go_skip | ((with_reducible apply wpl_alloc); intro z wz _ _ _) | ((with_reducible apply wpl_loadrow); (exact rfl); infer_instance; infer_instance; (first | (with_reducible assumption) | (with_reducible exact H32.size _) | (with_reducible exact enc_sz _ rfl) | kernel_rfl)) | ((with_reducible apply wpl_loadcellN); (exact rfl); infer_instance; (exact rfl)) | ((with_reducible apply wpl_storerow); (exact rfl); (exact rfl); infer_instance; infer_instance; (first | (with_reducible assumption) | (with_reducible exact H32.size _) | (with_reducible exact enc_sz _ rfl) | kernel_rfl); (first | (with_reducible assumption) | (with_reducible exact H32.size _) | (with_reducible exact enc_sz _ rfl) | kernel_rfl); (first | (with_reducible exact u8s_one _) | (with_reducible assumption) | (with_reducible exact enc_one _) | kernel_rfl); intro ws _ _) | ((with_reducible apply wpl_storecell); (exact rfl); (exact rfl); infer_instance; (exact rfl); (first | (with_reducible assumption) | omega | (focus (simp; done)) | (focus (simp; omega; done)) | decide); intro ws _ _))
        refine ret_rows rfl (g := y6) (g2 := y7) rfl rfl rfl rfl rfl ?_
        refine ⟨A, K, nm, cm, ck, l, rfl, stepN, hAA, hKK, HLN.out, hcm, hck, ?_, ?_, HCT.out⟩
        · have := allSigs_len3 m which twice
          rw [← HCT.out, List.length_map, HLN.out] at this
          exact this
        · intro r hr
          obtain ⟨⟨h1, h2⟩, _, _⟩ := HMO.out r hr
          obtain ⟨h3, h4⟩ := HYY.out r hr
          exact ⟨h1.chg c1 (fun _ ad e hk => h3.out ad e hk), h2.chg c1 (fun _ ad e hk => h4.out ad e hk)⟩
end Go.Proofs.Ytmijlojjkgeplaa
