/- The reference's Join in memory: what a function leaves, first. -/
import Derived.Test.YtmeeopfdplaiaaaSgRb
open Go Go.RowKit
namespace Go.Proofs.Ytmeeopfdplaiaaa
/-- the Join is left in this state -/
def XTo (z : Nat) (X : Nat → Prop) (w : World) (s' : St) (w' : World) : Prop := ∃ X', XS w' z X' s' ∧ Chg X w w' ∧ ∀ x, X' x → X x ∨ w.heap.size ≤ x
theorem XTo.calm {z : Nat} {X : Nat → Prop} {w w1 w' : World} {s' : St} (hc : Chg nowhere w w1) (h : XTo z X w1 s' w') : XTo z X w s' w' := by
  obtain ⟨X', h1, h2, h3⟩ := h
  exact ⟨X', h1, (hc.mono (fun _ _ hk => hk.elim)).trans h2 (fun _ _ hk => hk), fun x hx => (h3 x hx).imp (fun h => h) (fun h => Nat.le_trans hc.size h)⟩
theorem XTo.trans {z : Nat} {X X1 : Nat → Prop} {w w1 w' : World} {s' : St} (hc : Chg X w w1) (hX : ∀ x, X1 x → X x ∨ w.heap.size ≤ x) (h : XTo z X1 w1 s' w') : XTo z X w s' w' := by
  obtain ⟨X', h1, h2, h3⟩ := h
  refine ⟨X', h1, hc.trans h2 (fun x hx hk => (hX x hk).elim id (fun h => absurd hx (by omega))), fun x hx => ?_⟩
  rcases h3 x hx with h | h
  · exact hX x h
  · exact .inr (Nat.le_trans hc.size h)
def zr (z : Nat) (A : Option Addr) : Nat → Prop := fun k => k = z ∨ rowOf A k
instance (w0 : World) (z : Nat) (A : Option Addr) : Into w0 (only z) (zr z A) := ⟨fun _ _ h => .inl h⟩
instance (w0 : World) (z : Nat) (A : Option Addr) : Into w0 (rowOf A) (zr z A) := ⟨fun _ _ h => .inr h⟩
instance (w0 : World) (z : Nat) (A : Option Addr) : Into w0 (zr z A) (zr z A) := ⟨fun _ _ h => h⟩
instance (w0 : World) (z : Nat) (A : Option Addr) : Sub w0 (only z) (zr z A) := ⟨fun _ _ h => .inl h⟩
instance (w0 : World) (z : Nat) (A : Option Addr) : Sub w0 (rowOf A) (zr z A) := ⟨fun _ _ h => .inr h⟩
theorem OffA.newOld {w0 : World} {A B : Option Addr} (h : NewA w0 B) (ho : ∀ ad, A = some ad → ad.block < w0.heap.size) : OffA (rowOf A) B := ⟨fun ad e ⟨ad', e', hk⟩ => by
  have := h.out ad e
  have := ho ad' e'
  omega⟩
/-- one more has been counted -/
theorem XS.errDone {w w' : World} {z : Nat} {X : Nat → Prop} {s : St} (h : XS w z X s) {l : List OM} {LA : Option Addr} {n lc : Nat} (hn : l.length = n) (ho : Own w 90 5 LA n lc (cellsOf l)) (hb : Blk w z 38 #[.slice LA n lc, .int .i64 s.N]) (hi : ∀ ad, LA = some ad → X ad.block) (hr : OOk w l)
    (hx : ∀ o ∈ l, o.b ≠ [] → ∀ ad, o.A = some ad → X ad.block ∧ ad.block ≠ z ∧ ∀ ld, LA = some ld → ad.block ≠ ld.block) (hq : OR s l) (hC : Chg (only z) w w') (hB : HB w' z 38 #[.slice LA n lc, .int .i64 ((s.N : Int) + 1)]) : XTo z X w s.err w' := by
  subst hn
  have hz : ∀ ad, LA = some ad → ad.block ≠ z := ownO_no_blk ho hb (by decide)
  exact ⟨X, ⟨h.inz, fun x hx => Nat.lt_of_lt_of_le (h.low x hx) hC.size, l, LA, lc, hB.out, ho.chg hC (fun ad e => hz ad e), hi, fun o ho' => ⟨(hr o ho').1.chg hC (fun hne ad e => (hx o ho' (fun h0 => hne (by rw [h0]; rfl)) ad e).2.1), (hr o ho').2⟩, hx, hq.err⟩, hC.mono (fun x _ hk => by
    have hk' : x = z := hk
    rw [hk']
    exact h.inz), fun _ h => .inl h⟩
theorem Grew.le_ {w0 w : World} {A A' : Option Addr} (g : Grew w A A') [n : SzLe w0 w] : ∀ ad, A' = some ad → A' = A ∨ w0.heap.size ≤ ad.block := fun ad e => g.out.imp (fun h => h) (fun h => by
  rw [h] at e
  injection e with e
  subst e
  exact n.out)
/-- one more is open -/
theorem XS.pushDone {w w' : World} {z : Nat} {X : Nat → Prop} {s s' : St} (h : XS w z X s) {l : List OM} {LA : Option Addr} {n lc : Nat} (hn : l.length = n) (ho : Own w 90 5 LA n lc (cellsOf l)) (hi : ∀ ad, LA = some ad → X ad.block) (hr : OOk w l)
    (hx : ∀ o ∈ l, o.b ≠ [] → ∀ ad, o.A = some ad → X ad.block ∧ ad.block ≠ z ∧ ∀ ld, LA = some ld → ad.block ≠ ld.block) (hC : Chg (zr z LA) w w') {o : OM} {A7 : Option Addr} {c7 : Nat} (hB : HB w' z 38 #[.slice A7 (n + 1) c7, .int .i64 s.N])
    (hO : HO w' 90 5 A7 (n + 1) c7 (cellsOf (l ++ [o]))) (hg : ∀ ad, A7 = some ad → A7 = LA ∨ w.heap.size ≤ ad.block) (h5 : HO w' 5 1 o.A o.b.length o.c (bs o.b)) (hn5 : NewA w o.A) (hR : OR s' (l ++ [o])) (hs : s'.N = s.N) : XTo z X w s' w' := by
  subst hn
  rw [← hs] at hB
  have hlen : l.length + 1 = (l ++ [o]).length := by simp
  rw [hlen] at hB hO
  have hsz := hC.size
  have hold : ∀ q ∈ l, q.b ≠ [] → ∀ ad, q.A = some ad → ¬ zr z LA ad.block := fun q hq hb ad e hk => by
    obtain ⟨_, h2, h3⟩ := hx q hq hb ad e
    rcases hk with hk | ⟨ld, e2, hk⟩
    · exact h2 hk
    · exact h3 ld e2 hk.symm
  refine ⟨fun x => X x ∨ (w.heap.size ≤ x ∧ x < w'.heap.size), ⟨.inl h.inz, fun x hx => hx.elim (fun h' => Nat.lt_of_lt_of_le (h.low x h') hsz) (fun h' => h'.2), l ++ [o], A7, c7, hB.out, hO.out, fun ad e => ?_, fun q hq => ?_, fun q hq hb ad e => ?_, hR⟩, hC.mono (fun x _ hk => ?_), fun x hx => hx.elim .inl (fun h => .inr h.1)⟩
  · rcases hg ad e with k | k
    · exact .inl (hi ad (by rw [← k]; exact e))
    · exact .inr ⟨k, hO.out.lt e⟩
  · rcases List.mem_append.1 hq with hq | hq
    · exact ⟨(hr q hq).1.chg hC (fun hne ad e => hold q hq (fun h0 => hne (by rw [h0]; rfl)) ad e), (hr q hq).2⟩
    · obtain rfl : q = o := by simpa using hq
      exact ⟨h5.out.rd, own_cap h5.out⟩
  · rcases List.mem_append.1 hq with hq | hq
    · obtain ⟨h1, h2, h3⟩ := hx q hq hb ad e
      refine ⟨.inl h1, h2, fun ld e2 => ?_⟩
      rcases hg ld e2 with k | k
      · exact h3 ld (by rw [← k]; exact e2)
      · have := h.low _ h1
        omega
    · obtain rfl : q = o := by simpa using hq
      have h1 := hn5.out ad e
      refine ⟨.inr ⟨h1, h5.out.lt e⟩, fun k => ?_, fun ld e2 k => ?_⟩
      · have := h.low z h.inz
        omega
      · rcases h5.out.form with ⟨e0, _⟩ | ⟨g, cur, e1, hgb, _⟩
        · rw [e0] at e; cases e
        · rw [e1] at e
          injection e with e
          subst e
          exact ownO_no_blk hO.out hgb (by decide) ld e2 k.symm
  · rcases hk with hk | ⟨ld, e2, hk⟩
    · rw [hk]; exact h.inz
    · rw [← hk]; exact hi ld e2
theorem ev_indexB1 {P : Program} {a : Act} {w : World} {dst : Option Tmp} {ty : TypeId} {pos : String} {after : Array Edge} {gd : Option (Nat × Bool)} {t : TypeId} {x : Operand} {A : Option Addr} {n c : Nat} (hx : a.eval x = .slice A n c) {e : TypeId} {bytes : Nat} {z : Value} (E : ElemT P t e 1 bytes z) {xs : List UInt8} (hr : HR w A (bs xs)) (hl : xs.length = n) (h1 : 1 < n) :
    (execOp a.eval ⟨dst, .indexAddr t x (.const (.int .i64 1)), ty, pos, after, gd⟩).run P w = .ok (.value (ptrOf A 1)) w := ev_indexB (k := 1) hx rfl E hr hl h1
theorem ev_sl_l2 {P : Program} {a : Act} {w : World} {dst : Option Tmp} {ty : TypeId} {pos : String} {after : Array Edge} {gd : Option (Nat × Bool)} {t e : TypeId} {size bytes : Nat} {z : Value} {x : Operand} {A : Option Addr} {n c : Nat} (hx : a.eval x = .slice A n c) (E : ElemT P t e size bytes z) (h1 : 2 ≤ n) :
    (execOp a.eval ⟨dst, .slice t x (some (.const (.int .i64 2))) none none, ty, pos, after, gd⟩).run P w = .ok (.value (.slice (cutA A 2 c size) (n - 2) (c - 2))) w := ev_sl_l (k := 2) hx rfl E h1
theorem run_open (id wh nx la : Int) (A : Option Addr) (n c : Nat) (w : World) : (Instr.build 90 #[(0, .int .i64 id), (1, .int .i64 wh), (2, .int .i64 nx), (3, .int .i64 la), (4, .slice A n c)]).run Try.prog w = .ok (.agg #[.int .i64 id, .int .i64 wh, .int .i64 nx, .int .i64 la, .slice A n c]) w := by kernel_rfl
theorem run_opens1 (id wh nx la : Int) (A : Option Addr) (n c : Nat) (w : World) : (Instr.buildSlice 36 1 #[(0, .agg #[.int .i64 id, .int .i64 wh, .int .i64 nx, .int .i64 la, .slice A n c])]).run Try.prog w = .ok (.slice (some ⟨w.heap.size, 0, none⟩) 1 1) (w.alloc (.cells #[.int .i64 id, .int .i64 wh, .int .i64 nx, .int .i64 la, .slice A n c] 90)) := by kernel_rfl
theorem andu8 (d : Nat) (h : d < 256) : bits .and .u8 (d : Int) 15 = ((d % 16 : Nat) : Int) := by
  have h1 : (BitVec.ofInt 8 (d : Int)).toNat = d := by
    rw [BitVec.ofInt_natCast, BitVec.toNat_ofNat]; exact Nat.mod_eq_of_lt (by omega)
  have h2 : (BitVec.ofInt 8 (15 : Int)).toNat = 15 := by decide
  show IntKind.u8.wrap ((BitVec.ofInt 8 (d : Int) &&& BitVec.ofInt 8 (15 : Int)).toNat : Int) = _
  rw [BitVec.toNat_and, h1, h2, show (15 : Nat) = 2 ^ 4 - 1 from rfl, Nat.and_two_pow_sub_one_eq_mod, IntKind.wrap_u8]
  omega
theorem wholeF (d0 d1 : Nat) (h0 : d0 < 256) (h1 : d1 < 256) {wh : Nat} (e : d0 % 16 * 256 + d1 = wh) : bits .or .i64 (IntKind.i64.wrap (IntKind.i64.wrap (bits .and .u8 (d0 : Int) 15) * 256)) (IntKind.i64.wrap (d1 : Int)) = (wh : Int) := by
  have e1 : IntKind.i64.wrap (((d0 % 16 : Nat) : Int)) = ((d0 % 16 : Nat) : Int) := by rw [IntKind.wrap_i64]; omega
  have e2 : IntKind.i64.wrap (((d0 % 16 : Nat) : Int) * 256) = ((d0 % 16 : Nat) : Int) * 256 := by rw [IntKind.wrap_i64]; omega
  have e3 : IntKind.i64.wrap (d1 : Int) = (d1 : Int) := by rw [IntKind.wrap_i64]; omega
  rw [andu8 d0 h0, e1, e2, e3, or256 (d0 % 16) d1 (by omega) h1, e]
set_option maxRecDepth 100000 in
set_option maxHeartbeats 1600000 in
theorem rfirst_calls (id now : Int) {A : Option Addr} {n c hi : Nat} {d : List UInt8} {w : World} {z : Nat} {X : Nat → Prop} {s : St} (h : XS w z X s) (hN : s.N ≤ 1000000000) (hm : s.m ≤ 900000) (hp : Rd w A (bs d)) (ho : Apart X A (bs d)) (hn : d.length = n) (hc : n ≤ c) (h0 : 0 < n)
    (hhi : (bget d 0).toNat % 16 = hi) (h3 : -9223372036854775808 ≤ now) (h4 : now ≤ 9223372036854775807) :
    Calls Try.prog 34 #[.pointer (some ⟨z, 0, none⟩), .agg #[.int .i64 id, .slice A n c], .int .i64 now] w fun e w' => e = .returned (.tuple #[]) ∧ XTo z X w (firstS s id hi (d.drop 1) now).1 w' := by
  have hR : HR w A (bs d) := ⟨hp⟩
  obtain ⟨l, LA, lc, hb, hO0, hi0, hr, hx, hq⟩ := h.mem
  obtain ⟨m, hlm⟩ : ∃ m, l.length = m := ⟨_, rfl⟩
  rw [hlm] at hb hO0
  have hB : HB w z 38 #[.slice LA m lc, .int .i64 s.N] := ⟨hb⟩
  by_cases h8 : n = 8
  · subst h8
    obtain ⟨d0, hd0⟩ : ∃ x, (bget d 0).toNat = x := ⟨_, rfl⟩
    obtain ⟨lo, hlo⟩ : ∃ x, (bget d 1).toNat = x := ⟨_, rfl⟩
    have hd2 : d0 < 256 := by rw [← hd0]; exact (bget d 0).toNat_lt
    have hlo2 : lo < 256 := by rw [← hlo]; exact (bget d 1).toNat_lt
    rw [hd0] at hhi
    have hhi2 : hi < 16 := by omega
    obtain ⟨wh, hwh⟩ : ∃ x, hi * 256 + lo = x := ⟨_, rfl⟩
    have hwh2 : wh < 4096 := by omega
    have hsp : firstS s id hi (d.drop 1) now = if wh ≤ 7 ∨ 600 < wh then errS s else ((s.drop id).put id ⟨d.drop 2, wh, 1, now⟩, none) := by
      have e1 : (bget (d.drop 1) 0).toNat = lo := by rw [← hlo]; first | done | simp [bget]
      rw [firstS, if_neg (by rw [List.length_drop]; omega), e1, hwh, List.drop_drop]
    rw [hsp]
    have F1 := Lib.hid (wholeF (wh := wh) (bget d 0).toNat (bget d 1).toNat (by omega) (by omega) (by rw [hd0, hlo, hhi]; exact hwh))
    clear hd0 hlo hsp hwh hhi hhi2 hlo2 hd2
    by_cases hw : wh ≤ 7 ∨ 600 < wh
    · rw [if_pos hw]
      have hwI : (wh : Int) < 8 ∨ ¬ (wh : Int) < 8 ∧ (600 : Int) < wh := by omega
      clear hw
      go_enter Try.func34, Try.ntmps34
      go_wp2_with (first | go_skip | ((with_reducible apply (wpl_box_agg (dst := some 4))); exact rfl; intro zf wzf _ _ _) | ((with_reducible apply (wpl_box_int (dst := some 4))); exact rfl; intro zf wzf _ _ _) | ((with_reducible apply (wpl_box_slice (dst := some 4))); exact rfl; intro zf wzf _ _ _) | ((with_reducible apply (wpl_box_str (dst := some 4))); exact rfl; intro zf wzf _ _ _) | ((with_reducible apply (wpl_box_bool (dst := some 4))); exact rfl; intro zf wzf _ _ _) | ((with_reducible apply (wpl_box_ptr (dst := some 4))); exact rfl; intro zf wzf _ _ _) | ((with_reducible apply wpl_box_agg); exact rfl; intro z wz _ _ _) | ((with_reducible apply wpl_box_int); exact rfl; intro z wz _ _ _) | ((with_reducible apply wpl_box_slice); exact rfl; intro z wz _ _ _) | ((with_reducible apply wpl_box_str); exact rfl; intro z wz _ _ _) | ((with_reducible apply wpl_box_bool); exact rfl; intro z wz _ _ _) | ((with_reducible apply wpl_box_ptr); exact rfl; intro z wz _ _ _) | ((with_reducible apply wpl_loadrow); exact rfl; infer_instance; infer_instance; (first | with_reducible assumption | (with_reducible exact enc_sz _ rfl) | kernel_rfl)) | ((with_reducible apply wpl_loadcellN); exact rfl; infer_instance; exact rfl) | ((with_reducible apply wpl_storerow); exact rfl; exact rfl; infer_instance; infer_instance; (first | with_reducible assumption | (with_reducible exact enc_sz _ rfl) | kernel_rfl); (first | with_reducible assumption | (with_reducible exact enc_sz _ rfl) | kernel_rfl); (first | (with_reducible exact u8s_one _) | with_reducible assumption | (with_reducible exact enc_one _) | kernel_rfl); intro ws _ _) | ((with_reducible apply wpl_storecell); exact rfl; exact rfl; infer_instance; exact rfl; (first | with_reducible assumption | omega | (focus (simp; done)) | (focus (simp; omega; done)) | decide); intro ws _ _))
      refine wp_region_N (nowhere) (by kernel_rfl) (fun wd _ _ => ?_)
      refine' takeH (i := 0) (v := _) rfl (by kernel_rfl) (by kernel_rfl) (by kernel_rfl) (fun _ _ _ h => h) (yields_of (by rfl) (fun w' _ => ?_)) inferInstance ?_
      rotate_left
      · (first | ((with_reducible apply (ev_fieldE (t := 90))); (exact Try.underlying90); exact rfl; (kernel_rfl); exact rfl; infer_instance; (exact cells_pos (by decide) (by omega))) | (go_simp; try with_reducible rfl))
      try simp only [Act.put, sA]; try simp only [sB, sC]
      refine' takeH (i := 1) (v := _) rfl (by kernel_rfl) (by kernel_rfl) (by kernel_rfl) (fun _ _ _ h => h) (yields_of (by rfl) (fun w' _ => ?_)) inferInstance ?_
      rotate_left
      · (first | ((with_reducible apply (ev_loadB (t := 5))); exact rfl; infer_instance; infer_instance; (first | with_reducible assumption | omega)) | ((with_reducible apply ev_loadrow); exact rfl; infer_instance; infer_instance; (first | with_reducible assumption | (with_reducible exact enc_sz _ rfl) | kernel_rfl)) | ((with_reducible apply ev_loadcellN); exact rfl; infer_instance; infer_instance; exact rfl) | ((with_reducible apply (ev_loadE (α := OM) (t := 90))); infer_instance; exact rfl; infer_instance; exact rfl; (decide); (first | with_reducible assumption | omega | (focus (simp; done)) | (focus (simp; omega; done)) | decide)) | ((with_reducible apply (ev_loadF (α := OM))); infer_instance; exact rfl; infer_instance; exact rfl; (first | with_reducible assumption | omega | (focus (simp; done)) | (focus (simp; omega; done)) | decide); exact rfl) | ((with_reducible apply (ev_loadint (t := 3))); exact rfl; infer_instance; infer_instance; (first | with_reducible assumption | omega)) | ((with_reducible apply (ev_loadbyte (t := 5))); exact rfl; infer_instance; infer_instance; (first | with_reducible assumption | omega)) | (go_simp; try with_reducible rfl))
      try simp only [Act.put, sA]; try simp only [sB, sC]
      refine' takeH (i := 2) (v := _) rfl (by kernel_rfl) (by kernel_rfl) (by kernel_rfl) (fun _ _ _ h => h) (yields_of (by rfl) (fun w' _ => ?_)) inferInstance ?_
      rotate_left
      · (first | ((with_reducible apply ev_indexB1); exact rfl; infer_instance; infer_instance; (exact hn); (decide)) | ((with_reducible apply ev_indexB0); exact rfl; infer_instance; infer_instance; (first | with_reducible assumption | omega); (first | with_reducible assumption | omega)) | ((with_reducible apply ev_indexB); exact rfl; exact rfl; infer_instance; infer_instance; (first | with_reducible assumption | omega); (first | with_reducible assumption | omega)) | ((with_reducible apply (ev_indexE (α := OM) (t := 36))); exact rfl; exact rfl; infer_instance; infer_instance; (first | with_reducible assumption | omega | (focus (simp; done)) | (focus (simp; omega; done)) | decide); exact rfl; (decide); (first | with_reducible assumption | omega | (focus (simp; done)) | (focus (simp; omega; done)) | decide)) | ((with_reducible apply (ev_indexE0 (α := OM) (t := 36))); exact rfl; infer_instance; infer_instance; (first | with_reducible assumption | omega | (focus (simp; done)) | (focus (simp; omega; done)) | decide); exact rfl; (decide); (first | with_reducible assumption | omega | (focus (simp; done)) | (focus (simp; omega; done)) | decide)) | (go_simp; try with_reducible rfl))
      try simp only [Act.put, sA]; try simp only [sB, sC]
      refine' takeH (i := 3) (v := _) rfl (by kernel_rfl) (by kernel_rfl) (by kernel_rfl) (fun _ _ _ h => h) (yields_of (by rfl) (fun w' _ => ?_)) inferInstance ?_
      rotate_left
      · (first | ((with_reducible apply (ev_loadB (t := 5))); exact rfl; infer_instance; infer_instance; (first | with_reducible assumption | omega)) | ((with_reducible apply ev_loadrow); exact rfl; infer_instance; infer_instance; (first | with_reducible assumption | (with_reducible exact enc_sz _ rfl) | kernel_rfl)) | ((with_reducible apply ev_loadcellN); exact rfl; infer_instance; infer_instance; exact rfl) | ((with_reducible apply (ev_loadE (α := OM) (t := 90))); infer_instance; exact rfl; infer_instance; exact rfl; (decide); (first | with_reducible assumption | omega | (focus (simp; done)) | (focus (simp; omega; done)) | decide)) | ((with_reducible apply (ev_loadF (α := OM))); infer_instance; exact rfl; infer_instance; exact rfl; (first | with_reducible assumption | omega | (focus (simp; done)) | (focus (simp; omega; done)) | decide); exact rfl) | ((with_reducible apply (ev_loadint (t := 3))); exact rfl; infer_instance; infer_instance; (first | with_reducible assumption | omega)) | ((with_reducible apply (ev_loadbyte (t := 5))); exact rfl; infer_instance; infer_instance; (first | with_reducible assumption | omega)) | (go_simp; try with_reducible rfl))
      try simp only [Act.put, sA]; try simp only [sB, sC]
      refine' takeH (i := 4) (v := _) rfl (by kernel_rfl) (by kernel_rfl) (by kernel_rfl) (fun _ _ _ h => h) (yields_of (by rfl) (fun w' _ => ?_)) inferInstance ?_
      rotate_left
      · (go_simp; try with_reducible rfl)
      try simp only [Act.put, sA]; try simp only [sB, sC]
      try simp only [F1.out]
      refine' takeH (i := 5) (v := _) rfl (by kernel_rfl) (by kernel_rfl) (by kernel_rfl) (fun _ _ _ h => h) (yields_of (by rfl) (fun w' _ => ?_)) inferInstance ?_
      rotate_left
      · (go_simp; try with_reducible rfl)
      try simp only [Act.put, sA]; try simp only [sB, sC]
      refine' takeH (i := 6) (v := _) rfl (by kernel_rfl) (by kernel_rfl) (by kernel_rfl) (fun _ _ _ h => h) (yields_of (by rfl) (fun w' _ => ?_)) inferInstance ?_
      rotate_left
      · (go_simp; try with_reducible rfl)
      try simp only [Act.put, sA]; try simp only [sB, sC]
      try simp only [F1.out]
      refine' takeH (i := 7) (v := _) rfl (by kernel_rfl) (by kernel_rfl) (by kernel_rfl) (fun _ _ _ h => h) (yields_of (by rfl) (fun w' _ => ?_)) inferInstance ?_
      rotate_left
      · (first | ((with_reducible apply (ev_fieldE (t := 90))); (exact Try.underlying90); exact rfl; (kernel_rfl); exact rfl; infer_instance; (exact cells_pos (by decide) (by omega))) | (go_simp; try with_reducible rfl))
      try simp only [Act.put, sA]; try simp only [sB, sC]
      refine' takeH (i := 8) (v := _) rfl (by kernel_rfl) (by kernel_rfl) (by kernel_rfl) (fun _ _ _ h => h) (yields_of (by rfl) (fun w' _ => ?_)) inferInstance ?_
      rotate_left
      · (first | ((with_reducible apply (ev_loadB (t := 5))); exact rfl; infer_instance; infer_instance; (first | with_reducible assumption | omega)) | ((with_reducible apply ev_loadrow); exact rfl; infer_instance; infer_instance; (first | with_reducible assumption | (with_reducible exact enc_sz _ rfl) | kernel_rfl)) | ((with_reducible apply ev_loadcellN); exact rfl; infer_instance; infer_instance; exact rfl) | ((with_reducible apply (ev_loadE (α := OM) (t := 90))); infer_instance; exact rfl; infer_instance; exact rfl; (decide); (first | with_reducible assumption | omega | (focus (simp; done)) | (focus (simp; omega; done)) | decide)) | ((with_reducible apply (ev_loadF (α := OM))); infer_instance; exact rfl; infer_instance; exact rfl; (first | with_reducible assumption | omega | (focus (simp; done)) | (focus (simp; omega; done)) | decide); exact rfl) | ((with_reducible apply (ev_loadint (t := 3))); exact rfl; infer_instance; infer_instance; (first | with_reducible assumption | omega)) | ((with_reducible apply (ev_loadbyte (t := 5))); exact rfl; infer_instance; infer_instance; (first | with_reducible assumption | omega)) | (go_simp; try with_reducible rfl))
      try simp only [Act.put, sA]; try simp only [sB, sC]
      refine' takeH (i := 9) (v := _) rfl (by kernel_rfl) (by kernel_rfl) (by kernel_rfl) (fun _ _ _ h => h) (yields_of (by rfl) (fun w' _ => ?_)) inferInstance ?_
      rotate_left
      · (first | ((with_reducible apply ev_indexB1); exact rfl; infer_instance; infer_instance; (exact hn); (decide)) | ((with_reducible apply ev_indexB0); exact rfl; infer_instance; infer_instance; (first | with_reducible assumption | omega); (first | with_reducible assumption | omega)) | ((with_reducible apply ev_indexB); exact rfl; exact rfl; infer_instance; infer_instance; (first | with_reducible assumption | omega); (first | with_reducible assumption | omega)) | ((with_reducible apply (ev_indexE (α := OM) (t := 36))); exact rfl; exact rfl; infer_instance; infer_instance; (first | with_reducible assumption | omega | (focus (simp; done)) | (focus (simp; omega; done)) | decide); exact rfl; (decide); (first | with_reducible assumption | omega | (focus (simp; done)) | (focus (simp; omega; done)) | decide)) | ((with_reducible apply (ev_indexE0 (α := OM) (t := 36))); exact rfl; infer_instance; infer_instance; (first | with_reducible assumption | omega | (focus (simp; done)) | (focus (simp; omega; done)) | decide); exact rfl; (decide); (first | with_reducible assumption | omega | (focus (simp; done)) | (focus (simp; omega; done)) | decide)) | (go_simp; try with_reducible rfl))
      try simp only [Act.put, sA]; try simp only [sB, sC]
      refine' takeH (i := 10) (v := _) rfl (by kernel_rfl) (by kernel_rfl) (by kernel_rfl) (fun _ _ _ h => h) (yields_of (by rfl) (fun w' _ => ?_)) inferInstance ?_
      rotate_left
      · (first | ((with_reducible apply (ev_loadB (t := 5))); exact rfl; infer_instance; infer_instance; (first | with_reducible assumption | omega)) | ((with_reducible apply ev_loadrow); exact rfl; infer_instance; infer_instance; (first | with_reducible assumption | (with_reducible exact enc_sz _ rfl) | kernel_rfl)) | ((with_reducible apply ev_loadcellN); exact rfl; infer_instance; infer_instance; exact rfl) | ((with_reducible apply (ev_loadE (α := OM) (t := 90))); infer_instance; exact rfl; infer_instance; exact rfl; (decide); (first | with_reducible assumption | omega | (focus (simp; done)) | (focus (simp; omega; done)) | decide)) | ((with_reducible apply (ev_loadF (α := OM))); infer_instance; exact rfl; infer_instance; exact rfl; (first | with_reducible assumption | omega | (focus (simp; done)) | (focus (simp; omega; done)) | decide); exact rfl) | ((with_reducible apply (ev_loadint (t := 3))); exact rfl; infer_instance; infer_instance; (first | with_reducible assumption | omega)) | ((with_reducible apply (ev_loadbyte (t := 5))); exact rfl; infer_instance; infer_instance; (first | with_reducible assumption | omega)) | (go_simp; try with_reducible rfl))
      try simp only [Act.put, sA]; try simp only [sB, sC]
      refine' takeH (i := 11) (v := _) rfl (by kernel_rfl) (by kernel_rfl) (by kernel_rfl) (fun _ _ _ h => h) (yields_of (by rfl) (fun w' _ => ?_)) inferInstance ?_
      rotate_left
      · (go_simp; try with_reducible rfl)
      try simp only [Act.put, sA]; try simp only [sB, sC]
      refine' takeH (i := 12) (v := _) rfl (by kernel_rfl) (by kernel_rfl) (by kernel_rfl) (fun _ _ _ h => h) (yields_of (by rfl) (fun w' _ => ?_)) inferInstance ?_
      rotate_left
      · (go_simp; try with_reducible rfl)
      try simp only [Act.put, sA]; try simp only [sB, sC]
      try simp only [F1.out]
      refine' takeH (i := 13) (v := _) rfl (by kernel_rfl) (by kernel_rfl) (by kernel_rfl) (fun _ _ _ h => h) (yields_of (by rfl) (fun w' _ => ?_)) inferInstance ?_
      rotate_left
      · (go_simp; try with_reducible rfl)
      try simp only [Act.put, sA]; try simp only [sB, sC]
      refine wpAnyH_done (by kernel_rfl) ?_ _
      rcases hwI with q1 | ⟨q1, q2⟩
      all_goals
        go_wp2_with (first | go_skip | ((with_reducible apply wpl_box_agg); exact rfl; intro z wz _ _ _) | ((with_reducible apply wpl_box_int); exact rfl; intro z wz _ _ _) | ((with_reducible apply wpl_box_slice); exact rfl; intro z wz _ _ _) | ((with_reducible apply wpl_box_str); exact rfl; intro z wz _ _ _) | ((with_reducible apply wpl_box_bool); exact rfl; intro z wz _ _ _) | ((with_reducible apply wpl_box_ptr); exact rfl; intro z wz _ _ _) | ((with_reducible apply wpl_loadrow); exact rfl; infer_instance; infer_instance; (first | with_reducible assumption | (with_reducible exact enc_sz _ rfl) | kernel_rfl)) | ((with_reducible apply wpl_loadcellN); exact rfl; infer_instance; exact rfl) | ((with_reducible apply wpl_storerow); exact rfl; exact rfl; infer_instance; infer_instance; (first | with_reducible assumption | (with_reducible exact enc_sz _ rfl) | kernel_rfl); (first | with_reducible assumption | (with_reducible exact enc_sz _ rfl) | kernel_rfl); (first | (with_reducible exact u8s_one _) | with_reducible assumption | (with_reducible exact enc_one _) | kernel_rfl); intro ws _ _) | ((with_reducible apply wpl_storecell); exact rfl; exact rfl; infer_instance; exact rfl; (first | with_reducible assumption | omega | (focus (simp; done)) | (focus (simp; omega; done)) | decide); intro ws _ _))
        refine bodyPost_ret (results_none rfl _ _ _) rfl ?_
        have hC : Chg (only z) w ws := (stepC (w0 := w)).chg
        have hB2 : HB ws z 38 (#[.slice LA m lc, .int .i64 s.N].setIfInBounds 1 (.int .i64 ((s.N : Int) + 1))) := inferInstance
        exact ⟨rfl, XS.errDone h hlm hO0 hb hi0 hr hx hq hC hB2⟩
    · rw [if_neg hw]
      obtain ⟨pd, hpd⟩ : ∃ pd, d.drop 2 = pd := ⟨_, rfl⟩
      have hl6 : pd.length = 6 := by rw [← hpd, List.length_drop, hn]
      obtain ⟨s1, hs1⟩ : ∃ x, s.drop id = x := ⟨_, rfl⟩
      rw [hpd, hs1]
      have HPD := Lib.hid hpd
      have HS1 := Lib.hid hs1
      clear hpd hs1
      have q1 : ¬ (wh : Int) < 8 := by omega
      have q2 : ¬ (600 : Int) < wh := by omega
      have hw1 : 7 < wh := by omega
      have hw2 : wh ≤ 600 := by omega
      clear hw
      go_enter Try.func34, Try.ntmps34
      go_wp2_with (first | go_skip | ((with_reducible apply (wpl_box_agg (dst := some 4))); exact rfl; intro zf wzf _ _ _) | ((with_reducible apply (wpl_box_int (dst := some 4))); exact rfl; intro zf wzf _ _ _) | ((with_reducible apply (wpl_box_slice (dst := some 4))); exact rfl; intro zf wzf _ _ _) | ((with_reducible apply (wpl_box_str (dst := some 4))); exact rfl; intro zf wzf _ _ _) | ((with_reducible apply (wpl_box_bool (dst := some 4))); exact rfl; intro zf wzf _ _ _) | ((with_reducible apply (wpl_box_ptr (dst := some 4))); exact rfl; intro zf wzf _ _ _) | ((with_reducible apply wpl_box_agg); exact rfl; intro z wz _ _ _) | ((with_reducible apply wpl_box_int); exact rfl; intro z wz _ _ _) | ((with_reducible apply wpl_box_slice); exact rfl; intro z wz _ _ _) | ((with_reducible apply wpl_box_str); exact rfl; intro z wz _ _ _) | ((with_reducible apply wpl_box_bool); exact rfl; intro z wz _ _ _) | ((with_reducible apply wpl_box_ptr); exact rfl; intro z wz _ _ _) | ((with_reducible apply wpl_loadrow); exact rfl; infer_instance; infer_instance; (first | with_reducible assumption | (with_reducible exact enc_sz _ rfl) | kernel_rfl)) | ((with_reducible apply wpl_loadcellN); exact rfl; infer_instance; exact rfl) | ((with_reducible apply wpl_storerow); exact rfl; exact rfl; infer_instance; infer_instance; (first | with_reducible assumption | (with_reducible exact enc_sz _ rfl) | kernel_rfl); (first | with_reducible assumption | (with_reducible exact enc_sz _ rfl) | kernel_rfl); (first | (with_reducible exact u8s_one _) | with_reducible assumption | (with_reducible exact enc_one _) | kernel_rfl); intro ws _ _) | ((with_reducible apply wpl_storecell); exact rfl; exact rfl; infer_instance; exact rfl; (first | with_reducible assumption | omega | (focus (simp; done)) | (focus (simp; omega; done)) | decide); intro ws _ _))
      refine wp_region_N (nowhere) (by kernel_rfl) (fun wd _ _ => ?_)
      refine' takeH (i := 0) (v := _) rfl (by kernel_rfl) (by kernel_rfl) (by kernel_rfl) (fun _ _ _ h => h) (yields_of (by rfl) (fun w' _ => ?_)) inferInstance ?_
      rotate_left
      · (first | ((with_reducible apply (ev_fieldE (t := 90))); (exact Try.underlying90); exact rfl; (kernel_rfl); exact rfl; infer_instance; (exact cells_pos (by decide) (by omega))) | (go_simp; try with_reducible rfl))
      try simp only [Act.put, sA]; try simp only [sB, sC]
      refine' takeH (i := 1) (v := _) rfl (by kernel_rfl) (by kernel_rfl) (by kernel_rfl) (fun _ _ _ h => h) (yields_of (by rfl) (fun w' _ => ?_)) inferInstance ?_
      rotate_left
      · (first | ((with_reducible apply (ev_loadB (t := 5))); exact rfl; infer_instance; infer_instance; (first | with_reducible assumption | omega)) | ((with_reducible apply ev_loadrow); exact rfl; infer_instance; infer_instance; (first | with_reducible assumption | (with_reducible exact enc_sz _ rfl) | kernel_rfl)) | ((with_reducible apply ev_loadcellN); exact rfl; infer_instance; infer_instance; exact rfl) | ((with_reducible apply (ev_loadE (α := OM) (t := 90))); infer_instance; exact rfl; infer_instance; exact rfl; (decide); (first | with_reducible assumption | omega | (focus (simp; done)) | (focus (simp; omega; done)) | decide)) | ((with_reducible apply (ev_loadF (α := OM))); infer_instance; exact rfl; infer_instance; exact rfl; (first | with_reducible assumption | omega | (focus (simp; done)) | (focus (simp; omega; done)) | decide); exact rfl) | ((with_reducible apply (ev_loadint (t := 3))); exact rfl; infer_instance; infer_instance; (first | with_reducible assumption | omega)) | ((with_reducible apply (ev_loadbyte (t := 5))); exact rfl; infer_instance; infer_instance; (first | with_reducible assumption | omega)) | (go_simp; try with_reducible rfl))
      try simp only [Act.put, sA]; try simp only [sB, sC]
      refine' takeH (i := 2) (v := _) rfl (by kernel_rfl) (by kernel_rfl) (by kernel_rfl) (fun _ _ _ h => h) (yields_of (by rfl) (fun w' _ => ?_)) inferInstance ?_
      rotate_left
      · (first | ((with_reducible apply ev_indexB1); exact rfl; infer_instance; infer_instance; (exact hn); (decide)) | ((with_reducible apply ev_indexB0); exact rfl; infer_instance; infer_instance; (first | with_reducible assumption | omega); (first | with_reducible assumption | omega)) | ((with_reducible apply ev_indexB); exact rfl; exact rfl; infer_instance; infer_instance; (first | with_reducible assumption | omega); (first | with_reducible assumption | omega)) | ((with_reducible apply (ev_indexE (α := OM) (t := 36))); exact rfl; exact rfl; infer_instance; infer_instance; (first | with_reducible assumption | omega | (focus (simp; done)) | (focus (simp; omega; done)) | decide); exact rfl; (decide); (first | with_reducible assumption | omega | (focus (simp; done)) | (focus (simp; omega; done)) | decide)) | ((with_reducible apply (ev_indexE0 (α := OM) (t := 36))); exact rfl; infer_instance; infer_instance; (first | with_reducible assumption | omega | (focus (simp; done)) | (focus (simp; omega; done)) | decide); exact rfl; (decide); (first | with_reducible assumption | omega | (focus (simp; done)) | (focus (simp; omega; done)) | decide)) | (go_simp; try with_reducible rfl))
      try simp only [Act.put, sA]; try simp only [sB, sC]
      refine' takeH (i := 3) (v := _) rfl (by kernel_rfl) (by kernel_rfl) (by kernel_rfl) (fun _ _ _ h => h) (yields_of (by rfl) (fun w' _ => ?_)) inferInstance ?_
      rotate_left
      · (first | ((with_reducible apply (ev_loadB (t := 5))); exact rfl; infer_instance; infer_instance; (first | with_reducible assumption | omega)) | ((with_reducible apply ev_loadrow); exact rfl; infer_instance; infer_instance; (first | with_reducible assumption | (with_reducible exact enc_sz _ rfl) | kernel_rfl)) | ((with_reducible apply ev_loadcellN); exact rfl; infer_instance; infer_instance; exact rfl) | ((with_reducible apply (ev_loadE (α := OM) (t := 90))); infer_instance; exact rfl; infer_instance; exact rfl; (decide); (first | with_reducible assumption | omega | (focus (simp; done)) | (focus (simp; omega; done)) | decide)) | ((with_reducible apply (ev_loadF (α := OM))); infer_instance; exact rfl; infer_instance; exact rfl; (first | with_reducible assumption | omega | (focus (simp; done)) | (focus (simp; omega; done)) | decide); exact rfl) | ((with_reducible apply (ev_loadint (t := 3))); exact rfl; infer_instance; infer_instance; (first | with_reducible assumption | omega)) | ((with_reducible apply (ev_loadbyte (t := 5))); exact rfl; infer_instance; infer_instance; (first | with_reducible assumption | omega)) | (go_simp; try with_reducible rfl))
      try simp only [Act.put, sA]; try simp only [sB, sC]
      refine' takeH (i := 4) (v := _) rfl (by kernel_rfl) (by kernel_rfl) (by kernel_rfl) (fun _ _ _ h => h) (yields_of (by rfl) (fun w' _ => ?_)) inferInstance ?_
      rotate_left
      · (go_simp; try with_reducible rfl)
      try simp only [Act.put, sA]; try simp only [sB, sC]
      try simp only [F1.out]
      refine' takeH (i := 5) (v := _) rfl (by kernel_rfl) (by kernel_rfl) (by kernel_rfl) (fun _ _ _ h => h) (yields_of (by rfl) (fun w' _ => ?_)) inferInstance ?_
      rotate_left
      · (go_simp; try with_reducible rfl)
      try simp only [Act.put, sA]; try simp only [sB, sC]
      refine' takeH (i := 6) (v := _) rfl (by kernel_rfl) (by kernel_rfl) (by kernel_rfl) (fun _ _ _ h => h) (yields_of (by rfl) (fun w' _ => ?_)) inferInstance ?_
      rotate_left
      · (go_simp; try with_reducible rfl)
      try simp only [Act.put, sA]; try simp only [sB, sC]
      try simp only [F1.out]
      refine' takeH (i := 7) (v := _) rfl (by kernel_rfl) (by kernel_rfl) (by kernel_rfl) (fun _ _ _ h => h) (yields_of (by rfl) (fun w' _ => ?_)) inferInstance ?_
      rotate_left
      · (first | ((with_reducible apply (ev_fieldE (t := 90))); (exact Try.underlying90); exact rfl; (kernel_rfl); exact rfl; infer_instance; (exact cells_pos (by decide) (by omega))) | (go_simp; try with_reducible rfl))
      try simp only [Act.put, sA]; try simp only [sB, sC]
      refine' takeH (i := 8) (v := _) rfl (by kernel_rfl) (by kernel_rfl) (by kernel_rfl) (fun _ _ _ h => h) (yields_of (by rfl) (fun w' _ => ?_)) inferInstance ?_
      rotate_left
      · (first | ((with_reducible apply (ev_loadB (t := 5))); exact rfl; infer_instance; infer_instance; (first | with_reducible assumption | omega)) | ((with_reducible apply ev_loadrow); exact rfl; infer_instance; infer_instance; (first | with_reducible assumption | (with_reducible exact enc_sz _ rfl) | kernel_rfl)) | ((with_reducible apply ev_loadcellN); exact rfl; infer_instance; infer_instance; exact rfl) | ((with_reducible apply (ev_loadE (α := OM) (t := 90))); infer_instance; exact rfl; infer_instance; exact rfl; (decide); (first | with_reducible assumption | omega | (focus (simp; done)) | (focus (simp; omega; done)) | decide)) | ((with_reducible apply (ev_loadF (α := OM))); infer_instance; exact rfl; infer_instance; exact rfl; (first | with_reducible assumption | omega | (focus (simp; done)) | (focus (simp; omega; done)) | decide); exact rfl) | ((with_reducible apply (ev_loadint (t := 3))); exact rfl; infer_instance; infer_instance; (first | with_reducible assumption | omega)) | ((with_reducible apply (ev_loadbyte (t := 5))); exact rfl; infer_instance; infer_instance; (first | with_reducible assumption | omega)) | (go_simp; try with_reducible rfl))
      try simp only [Act.put, sA]; try simp only [sB, sC]
      refine' takeH (i := 9) (v := _) rfl (by kernel_rfl) (by kernel_rfl) (by kernel_rfl) (fun _ _ _ h => h) (yields_of (by rfl) (fun w' _ => ?_)) inferInstance ?_
      rotate_left
      · (first | ((with_reducible apply ev_indexB1); exact rfl; infer_instance; infer_instance; (exact hn); (decide)) | ((with_reducible apply ev_indexB0); exact rfl; infer_instance; infer_instance; (first | with_reducible assumption | omega); (first | with_reducible assumption | omega)) | ((with_reducible apply ev_indexB); exact rfl; exact rfl; infer_instance; infer_instance; (first | with_reducible assumption | omega); (first | with_reducible assumption | omega)) | ((with_reducible apply (ev_indexE (α := OM) (t := 36))); exact rfl; exact rfl; infer_instance; infer_instance; (first | with_reducible assumption | omega | (focus (simp; done)) | (focus (simp; omega; done)) | decide); exact rfl; (decide); (first | with_reducible assumption | omega | (focus (simp; done)) | (focus (simp; omega; done)) | decide)) | ((with_reducible apply (ev_indexE0 (α := OM) (t := 36))); exact rfl; infer_instance; infer_instance; (first | with_reducible assumption | omega | (focus (simp; done)) | (focus (simp; omega; done)) | decide); exact rfl; (decide); (first | with_reducible assumption | omega | (focus (simp; done)) | (focus (simp; omega; done)) | decide)) | (go_simp; try with_reducible rfl))
      try simp only [Act.put, sA]; try simp only [sB, sC]
      refine' takeH (i := 10) (v := _) rfl (by kernel_rfl) (by kernel_rfl) (by kernel_rfl) (fun _ _ _ h => h) (yields_of (by rfl) (fun w' _ => ?_)) inferInstance ?_
      rotate_left
      · (first | ((with_reducible apply (ev_loadB (t := 5))); exact rfl; infer_instance; infer_instance; (first | with_reducible assumption | omega)) | ((with_reducible apply ev_loadrow); exact rfl; infer_instance; infer_instance; (first | with_reducible assumption | (with_reducible exact enc_sz _ rfl) | kernel_rfl)) | ((with_reducible apply ev_loadcellN); exact rfl; infer_instance; infer_instance; exact rfl) | ((with_reducible apply (ev_loadE (α := OM) (t := 90))); infer_instance; exact rfl; infer_instance; exact rfl; (decide); (first | with_reducible assumption | omega | (focus (simp; done)) | (focus (simp; omega; done)) | decide)) | ((with_reducible apply (ev_loadF (α := OM))); infer_instance; exact rfl; infer_instance; exact rfl; (first | with_reducible assumption | omega | (focus (simp; done)) | (focus (simp; omega; done)) | decide); exact rfl) | ((with_reducible apply (ev_loadint (t := 3))); exact rfl; infer_instance; infer_instance; (first | with_reducible assumption | omega)) | ((with_reducible apply (ev_loadbyte (t := 5))); exact rfl; infer_instance; infer_instance; (first | with_reducible assumption | omega)) | (go_simp; try with_reducible rfl))
      try simp only [Act.put, sA]; try simp only [sB, sC]
      refine' takeH (i := 11) (v := _) rfl (by kernel_rfl) (by kernel_rfl) (by kernel_rfl) (fun _ _ _ h => h) (yields_of (by rfl) (fun w' _ => ?_)) inferInstance ?_
      rotate_left
      · (go_simp; try with_reducible rfl)
      try simp only [Act.put, sA]; try simp only [sB, sC]
      refine' takeH (i := 12) (v := _) rfl (by kernel_rfl) (by kernel_rfl) (by kernel_rfl) (fun _ _ _ h => h) (yields_of (by rfl) (fun w' _ => ?_)) inferInstance ?_
      rotate_left
      · (go_simp; try with_reducible rfl)
      try simp only [Act.put, sA]; try simp only [sB, sC]
      try simp only [F1.out]
      refine' takeH (i := 13) (v := _) rfl (by kernel_rfl) (by kernel_rfl) (by kernel_rfl) (fun _ _ _ h => h) (yields_of (by rfl) (fun w' _ => ?_)) inferInstance ?_
      rotate_left
      · (go_simp; try with_reducible rfl)
      try simp only [Act.put, sA]; try simp only [sB, sC]
      refine wpAnyH_done (by kernel_rfl) ?_ _
      go_wp2_with (first | go_skip | ((with_reducible apply wpl_box_agg); exact rfl; intro z wz _ _ _) | ((with_reducible apply wpl_box_int); exact rfl; intro z wz _ _ _) | ((with_reducible apply wpl_box_slice); exact rfl; intro z wz _ _ _) | ((with_reducible apply wpl_box_str); exact rfl; intro z wz _ _ _) | ((with_reducible apply wpl_box_bool); exact rfl; intro z wz _ _ _) | ((with_reducible apply wpl_box_ptr); exact rfl; intro z wz _ _ _) | ((with_reducible apply wpl_loadrow); exact rfl; infer_instance; infer_instance; (first | with_reducible assumption | (with_reducible exact enc_sz _ rfl) | kernel_rfl)) | ((with_reducible apply wpl_loadcellN); exact rfl; infer_instance; exact rfl) | ((with_reducible apply wpl_storerow); exact rfl; exact rfl; infer_instance; infer_instance; (first | with_reducible assumption | (with_reducible exact enc_sz _ rfl) | kernel_rfl); (first | with_reducible assumption | (with_reducible exact enc_sz _ rfl) | kernel_rfl); (first | (with_reducible exact u8s_one _) | with_reducible assumption | (with_reducible exact enc_one _) | kernel_rfl); intro ws _ _) | ((with_reducible apply wpl_storecell); exact rfl; exact rfl; infer_instance; exact rfl; (first | with_reducible assumption | omega | (focus (simp; done)) | (focus (simp; omega; done)) | decide); intro ws _ _))
      have hc0 : Chg nowhere w wd := (stepC (w0 := w)).chg
      have hfd : HB wd zf 40 #[.int .i64 id, .slice A 8 c] := inferInstance
      have hzf : ¬ zf < w.heap.size := fun hlt => (inferInstance : Into w (only zf) nowhere).out zf hlt rfl
      refine (xdropTrue_calls id (h.calm hc0 (fun _ _ hk => hk)) hN (by omega)).mono ?_
      rintro e w3 ⟨rfl, X3, hX3, hCz, hXle⟩
      have hC3 : Chg X wd w3 := hCz.mono (fun x _ hk => by rw [show x = z from hk]; exact h.inz)
      have hC03 : Chg X w w3 := (hc0.mono (fun _ _ hk => hk.elim)).trans hC3 (fun _ _ hk => hk)
      rw [HS1.out] at hX3
      have HG := Lib.hid (show s1.G id = none by rw [← HS1.out]; exact drop_at s id)
      have hm3 : s1.m ≤ 900000 := by rw [← HS1.out]; exact Nat.le_trans (drop_m s id) hm
      obtain ⟨l3, L3, lc3, hb3, hO3, hi3, hr3, hx3, hq3⟩ := hX3.mem
      obtain ⟨m3, hlm3⟩ : ∃ m, l3.length = m := ⟨_, rfl⟩
      rw [hlm3] at hb3 hO3
      have hm3' : m3 ≤ 900000 := by rw [← hlm3, hq3.m]; exact hm3
      have hR3 : HR w3 A (bs d) := ⟨hp.chg hC03 ho⟩
      have hB3 : HB w3 z 38 #[.slice L3 m3 lc3, .int .i64 s1.N] := ⟨hb3⟩
      have hO3' : HO w3 90 5 L3 m3 lc3 (cellsOf l3) := ⟨hO3⟩
      have hf3 : HB w3 zf 40 #[.int .i64 id, .slice A 8 c] := ⟨hfd.out.chg hC3 (fun hk => hzf (h.low zf hk))⟩
      have oz3 : OffA (only z) L3 := ⟨fun ad e hk => ownO_no_blk hO3 hb3 (by decide) ad e hk⟩
      have oB3 : OffB (rowOf L3) z := ⟨fun ⟨ad, e, hk⟩ => ownO_no_blk hO3 hb3 (by decide) ad e hk⟩
      have f0 : Fact' (([] : List UInt8).length ≤ maxLen) := ⟨by decide⟩
      have hRc : HR w3 (cutA A 2 c 1) (bs pd) := by rw [← HPD.out]; exact HR.cutB hR3 hn hc 2
      have hz3 : ¬ X3 zf := fun hk => (hXle zf hk).elim (fun hk => hzf (h.low zf hk)) (fun hk => by have := hfd.out.lt; omega)
      have ofz : OffB (zr z L3) zf := ⟨fun hk => hz3 (hk.elim (fun e => by rw [show zf = z from e]; exact hX3.inz) (fun ⟨ad, e, hk⟩ => by rw [← hk]; exact hi3 ad e))⟩
      have hXw : ∀ x, X3 x → X x ∨ w.heap.size ≤ x := fun x hk => (hXle x hk).imp (fun h => h) (fun h => Nat.le_trans hc0.size h)
      clear hc0 hC3
      go_wp2_with fail
      refine wp_region_N ((zr z L3)) (by kernel_rfl) (fun wd _ _ => ?_)
      refine' takeH (i := 0) (v := _) rfl (by kernel_rfl) (by kernel_rfl) (by kernel_rfl) (fun _ _ _ h => h) (yields_of (by rfl) (fun w' _ => ?_)) inferInstance ?_
      rotate_left
      · (go_simp; try with_reducible rfl)
      try simp only [Act.put, sA]; try simp only [sB, sC]
      refine' takeH (i := 1) (v := _) rfl (by kernel_rfl) (by kernel_rfl) (by kernel_rfl) (fun _ _ _ h => h) (yields_of (by rfl) (fun w' _ => ?_)) inferInstance ?_
      rotate_left
      · (go_simp; try with_reducible rfl)
      try simp only [Act.put, sA]; try simp only [sB, sC]
      refine' takeH (i := 2) (v := _) rfl (by kernel_rfl) (by kernel_rfl) (by kernel_rfl) (fun _ _ _ h => h) (yields_of (by rfl) (fun w' _ => ?_)) inferInstance ?_
      rotate_left
      · (go_simp; try with_reducible rfl)
      try simp only [Act.put, sA]; try simp only [sB, sC]
      refine' takeH (i := 3) (v := _) rfl (by kernel_rfl) (by kernel_rfl) (by kernel_rfl) (fun _ _ _ h => h) (yields_of (by rfl) (fun w' _ => ?_)) inferInstance ?_
      rotate_left
      · (first | ((with_reducible apply (ev_fieldE (t := 90))); (exact Try.underlying90); exact rfl; (kernel_rfl); exact rfl; infer_instance; (exact cells_pos (by decide) (by omega))) | (go_simp; try with_reducible rfl))
      try simp only [Act.put, sA]; try simp only [sB, sC]
      refine' takeH (i := 5) (v := _) rfl (by kernel_rfl) (by kernel_rfl) (by kernel_rfl) (fun _ _ _ h => h) (yields_of (by rfl) (fun w' _ => ?_)) inferInstance ?_
      rotate_left
      · (first | ((with_reducible apply (ev_fieldE (t := 90))); (exact Try.underlying90); exact rfl; (kernel_rfl); exact rfl; infer_instance; (exact cells_pos (by decide) (by omega))) | (go_simp; try with_reducible rfl))
      try simp only [Act.put, sA]; try simp only [sB, sC]
      refine' takeH (i := 6) (v := _) rfl (by kernel_rfl) (by kernel_rfl) (by kernel_rfl) (fun _ _ _ h => h) (yields_of (by rfl) (fun w' _ => ?_)) inferInstance ?_
      rotate_left
      · (first | ((with_reducible apply (ev_loadB (t := 5))); exact rfl; infer_instance; infer_instance; (first | with_reducible assumption | omega)) | ((with_reducible apply ev_loadrow); exact rfl; infer_instance; infer_instance; (first | with_reducible assumption | (with_reducible exact enc_sz _ rfl) | kernel_rfl)) | ((with_reducible apply ev_loadcellN); exact rfl; infer_instance; infer_instance; exact rfl) | ((with_reducible apply (ev_loadE (α := OM) (t := 90))); infer_instance; exact rfl; infer_instance; exact rfl; (decide); (first | with_reducible assumption | omega | (focus (simp; done)) | (focus (simp; omega; done)) | decide)) | ((with_reducible apply (ev_loadF (α := OM))); infer_instance; exact rfl; infer_instance; exact rfl; (first | with_reducible assumption | omega | (focus (simp; done)) | (focus (simp; omega; done)) | decide); exact rfl) | ((with_reducible apply (ev_loadint (t := 3))); exact rfl; infer_instance; infer_instance; (first | with_reducible assumption | omega)) | ((with_reducible apply (ev_loadbyte (t := 5))); exact rfl; infer_instance; infer_instance; (first | with_reducible assumption | omega)) | (go_simp; try with_reducible rfl))
      try simp only [Act.put, sA]; try simp only [sB, sC]
      refine' takeH (i := 7) (v := _) rfl (by kernel_rfl) (by kernel_rfl) (by kernel_rfl) (fun _ _ _ h => h) (yields_of (by rfl) (fun w' _ => ?_)) inferInstance ?_
      rotate_left
      · (go_simp; try with_reducible rfl)
      try simp only [Act.put, sA]; try simp only [sB, sC]
      refine' takeH (i := 8) (v := _) rfl (by kernel_rfl) (by kernel_rfl) (by kernel_rfl) (fun _ _ _ h => h) (yields_of (by rfl) (fun w' _ => ?_)) inferInstance ?_
      rotate_left
      · (go_simp; try with_reducible rfl)
      try simp only [Act.put, sA]; try simp only [sB, sC]
      refine' takeH (i := 10) (v := _) rfl (by kernel_rfl) (by kernel_rfl) (by kernel_rfl) (fun _ _ _ h => h) (yields_of (by rfl) (fun w' _ => ?_)) inferInstance ?_
      rotate_left
      · (first | ((with_reducible apply (ev_fieldE (t := 90))); (exact Try.underlying90); exact rfl; (kernel_rfl); exact rfl; infer_instance; (exact cells_pos (by decide) (by omega))) | (go_simp; try with_reducible rfl))
      try simp only [Act.put, sA]; try simp only [sB, sC]
      refine' takeH (i := 11) (v := _) rfl (by kernel_rfl) (by kernel_rfl) (by kernel_rfl) (fun _ _ _ h => h) (yields_of (by rfl) (fun w' _ => ?_)) inferInstance ?_
      rotate_left
      · (first | ((with_reducible apply (ev_loadB (t := 5))); exact rfl; infer_instance; infer_instance; (first | with_reducible assumption | omega)) | ((with_reducible apply ev_loadrow); exact rfl; infer_instance; infer_instance; (first | with_reducible assumption | (with_reducible exact enc_sz _ rfl) | kernel_rfl)) | ((with_reducible apply ev_loadcellN); exact rfl; infer_instance; infer_instance; exact rfl) | ((with_reducible apply (ev_loadE (α := OM) (t := 90))); infer_instance; exact rfl; infer_instance; exact rfl; (decide); (first | with_reducible assumption | omega | (focus (simp; done)) | (focus (simp; omega; done)) | decide)) | ((with_reducible apply (ev_loadF (α := OM))); infer_instance; exact rfl; infer_instance; exact rfl; (first | with_reducible assumption | omega | (focus (simp; done)) | (focus (simp; omega; done)) | decide); exact rfl) | ((with_reducible apply (ev_loadint (t := 3))); exact rfl; infer_instance; infer_instance; (first | with_reducible assumption | omega)) | ((with_reducible apply (ev_loadbyte (t := 5))); exact rfl; infer_instance; infer_instance; (first | with_reducible assumption | omega)) | (go_simp; try with_reducible rfl))
      try simp only [Act.put, sA]; try simp only [sB, sC]
      refine' takeH (i := 12) (v := _) rfl (by kernel_rfl) (by kernel_rfl) (by kernel_rfl) (fun _ _ _ h => h) (yields_of (by rfl) (fun w' _ => ?_)) inferInstance ?_
      rotate_left
      · (first | ((with_reducible apply ev_sl_l2); exact rfl; infer_instance; (omega)) | ((with_reducible apply ev_sl_lh); exact rfl; exact rfl; exact rfl; infer_instance; (first | with_reducible assumption | omega); (first | with_reducible assumption | omega)) | ((with_reducible apply ev_sl_h); exact rfl; exact rfl; infer_instance; (first | with_reducible assumption | omega)) | ((with_reducible apply ev_sl_l); exact rfl; exact rfl; infer_instance; (first | with_reducible assumption | omega)) | (go_simp; try with_reducible rfl))
      try simp only [Act.put, sA]; try simp only [sB, sC]
      refine wpAnyH_ready (rs := [4, 9]) (by kernel_rfl) (by simp) (AllReadyH.cons rfl (fun K_ hK_ => ?br1_4) (AllReadyH.cons rfl (fun K_ hK_ => ?br1_9) AllReadyH.nil))
      case' br1_4 =>
        rw [if_pos (by kernel_rfl)]
        refine wpr_of_list ?_
        (first | ((with_reducible apply (stop_dst (dst := some 50))); (try simp only [Act.put, sA, sB, sC]); ((with_reducible apply (wpl_bslice (dst := some 50))); (exact run_empty _); intro zn wb _ _ _)) | ((with_reducible apply (stop_dst (dst := some 54))); (with_reducible apply wpl_appendB); exact rfl; exact rfl; infer_instance; infer_instance; infer_instance; (exact hl6); omega; intro A5 c5 wa5 _ ho5 g5 hcap5; have hN5 : NewA w3 A5 := NewA.monoS (w0 := w3) inferInstance; have or5 : OffA (rowOf L3) A5 := OffA.newOld hN5 (fun ad e => hO3.lt e); have oz5 : OffA (only z) A5 := ⟨fun ad e hk => by have q1 := hN5.out ad e; have q2 := hb3.lt; have q3 : ad.block = z := hk; omega⟩) | ((with_reducible apply (stop_dst (dst := some 56))); (try simp only [Act.put, sA, sB, sC]); ((with_reducible apply (wpl_bslice (dst := some 56))); (exact run_opens1 _ _ _ _ _ _ _ _); intro ze wb _ _ _)) | ((with_reducible apply (stop_dst (dst := some 57))); (with_reducible apply (wpl_appendR (α := OM))); exact rfl; exact rfl; infer_instance; infer_instance; (exact HR.blkL (l := cellsOf [⟨id, wh, 1, now, A5, c5, pd⟩]) (z := ze) (by show HB _ ze _ #[.int .i64 id, .int .i64 ((wh : Nat) : Int), .int .i64 ((1 : Nat) : Int), .int .i64 now, .slice A5 pd.length c5]; rw [hl6]; exact inferInstance)); exact rfl; exact rfl; (omega); (decide); (decide); intro A7 c7 wa7 _ ho7 g7 hcap7) | ((with_reducible apply wpl_loadrow); exact rfl; infer_instance; infer_instance; (first | with_reducible assumption | (with_reducible exact enc_sz _ rfl) | kernel_rfl)) | ((with_reducible apply wpl_loadcellN); exact rfl; infer_instance; exact rfl) | ((with_reducible apply (wpl_loadE (α := OM) (t := 90))); infer_instance; exact rfl; infer_instance; exact rfl; (decide); (first | with_reducible assumption | omega | (focus (simp; done)) | (focus (simp; omega; done)) | decide)) | ((with_reducible apply (wpl_loadF (α := OM))); infer_instance; exact rfl; infer_instance; exact rfl; (first | with_reducible assumption | omega | (focus (simp; done)) | (focus (simp; omega; done)) | decide); exact rfl) | ((with_reducible apply (wpl_loadB (t := 5))); exact rfl; infer_instance; infer_instance; (first | with_reducible assumption | omega)) | ((with_reducible apply (wpl_loadint (t := 3))); exact rfl; infer_instance; infer_instance; (first | with_reducible assumption | omega)) | ((with_reducible apply (wpl_loadbyte (t := 5))); exact rfl; infer_instance; infer_instance; (first | with_reducible assumption | omega)))
        refine wpList_nil ?_
        unfold onlyN
        refine hK_.out _ _ inferInstance (fun _ => ?_)
        clear hK_ K_
        try simp only [Act.put, sA]; try simp only [sB, sC]
        refine goH (i := 9) (by kernel_rfl) rfl (fun K_ hK_ => ?_)
        rw [if_pos (by kernel_rfl)]
        refine wpr_of_list ?_
        (first | ((with_reducible apply (stop_dst (dst := some 50))); (try simp only [Act.put, sA, sB, sC]); ((with_reducible apply (wpl_bslice (dst := some 50))); (exact run_empty _); intro zn wb _ _ _)) | ((with_reducible apply (stop_dst (dst := some 54))); (with_reducible apply wpl_appendB); exact rfl; exact rfl; infer_instance; infer_instance; infer_instance; (exact hl6); omega; intro A5 c5 wa5 _ ho5 g5 hcap5; have hN5 : NewA w3 A5 := NewA.monoS (w0 := w3) inferInstance; have or5 : OffA (rowOf L3) A5 := OffA.newOld hN5 (fun ad e => hO3.lt e); have oz5 : OffA (only z) A5 := ⟨fun ad e hk => by have q1 := hN5.out ad e; have q2 := hb3.lt; have q3 : ad.block = z := hk; omega⟩) | ((with_reducible apply (stop_dst (dst := some 56))); (try simp only [Act.put, sA, sB, sC]); ((with_reducible apply (wpl_bslice (dst := some 56))); (exact run_opens1 _ _ _ _ _ _ _ _); intro ze wb _ _ _)) | ((with_reducible apply (stop_dst (dst := some 57))); (with_reducible apply (wpl_appendR (α := OM))); exact rfl; exact rfl; infer_instance; infer_instance; (exact HR.blkL (l := cellsOf [⟨id, wh, 1, now, A5, c5, pd⟩]) (z := ze) (by show HB _ ze _ #[.int .i64 id, .int .i64 ((wh : Nat) : Int), .int .i64 ((1 : Nat) : Int), .int .i64 now, .slice A5 pd.length c5]; rw [hl6]; exact inferInstance)); exact rfl; exact rfl; (omega); (decide); (decide); intro A7 c7 wa7 _ ho7 g7 hcap7))
        refine wpList_nil ?_
        unfold onlyN
        refine hK_.out _ _ inferInstance (fun _ => ?_)
        clear hK_ K_
        try simp only [Act.put, sA]; try simp only [sB, sC]
        refine goH (i := 13) (by kernel_rfl) rfl (fun K_ hK_ => ?_)
        rw [if_pos (by kernel_rfl)]
        refine wpr_of_list ?_
        (first | ((with_reducible apply (stop_dst (dst := some 50))); (try simp only [Act.put, sA, sB, sC]); ((with_reducible apply (wpl_bslice (dst := some 50))); (exact run_empty _); intro zn wb _ _ _)) | ((with_reducible apply (stop_dst (dst := some 54))); (with_reducible apply wpl_appendB); exact rfl; exact rfl; infer_instance; infer_instance; infer_instance; (exact hl6); omega; intro A5 c5 wa5 _ ho5 g5 hcap5; have hN5 : NewA w3 A5 := NewA.monoS (w0 := w3) inferInstance; have or5 : OffA (rowOf L3) A5 := OffA.newOld hN5 (fun ad e => hO3.lt e); have oz5 : OffA (only z) A5 := ⟨fun ad e hk => by have q1 := hN5.out ad e; have q2 := hb3.lt; have q3 : ad.block = z := hk; omega⟩) | ((with_reducible apply (stop_dst (dst := some 56))); (try simp only [Act.put, sA, sB, sC]); ((with_reducible apply (wpl_bslice (dst := some 56))); (exact run_opens1 _ _ _ _ _ _ _ _); intro ze wb _ _ _)) | ((with_reducible apply (stop_dst (dst := some 57))); (with_reducible apply (wpl_appendR (α := OM))); exact rfl; exact rfl; infer_instance; infer_instance; (exact HR.blkL (l := cellsOf [⟨id, wh, 1, now, A5, c5, pd⟩]) (z := ze) (by show HB _ ze _ #[.int .i64 id, .int .i64 ((wh : Nat) : Int), .int .i64 ((1 : Nat) : Int), .int .i64 now, .slice A5 pd.length c5]; rw [hl6]; exact inferInstance)); exact rfl; exact rfl; (omega); (decide); (decide); intro A7 c7 wa7 _ ho7 g7 hcap7) | ((with_reducible apply wpl_appendB); exact rfl; exact rfl; infer_instance; (first | exact inferInstance | exact ⟨Own.nil _ _ _⟩); infer_instance; (first | with_reducible assumption | (with_reducible exact H32.len _) | (focus (simp; done)) | omega); (first | with_reducible assumption | omega); intro A' c' wa _ _ _ hcap))
        refine wpList_nil ?_
        unfold onlyN
        refine hK_.out _ _ inferInstance (fun _ => ?_)
        clear hK_ K_
        try simp only [Act.put, sA]; try simp only [sB, sC]
        refine' takeH (i := 14) (v := _) rfl (by kernel_rfl) (by kernel_rfl) (by kernel_rfl) (fun _ _ _ h => h) (yields_of (by rfl) (fun w' _ => ?_)) inferInstance ?_
        rotate_left
        · (go_simp; try with_reducible rfl)
        try simp only [Act.put, sA]; try simp only [sB, sC]
        refine goH (i := 15) (by kernel_rfl) rfl (fun K_ hK_ => ?_)
        rw [if_pos (by kernel_rfl)]
        refine wpr_of_list ?_
        (first | ((with_reducible apply (stop_dst (dst := some 50))); (try simp only [Act.put, sA, sB, sC]); ((with_reducible apply (wpl_bslice (dst := some 50))); (exact run_empty _); intro zn wb _ _ _)) | ((with_reducible apply (stop_dst (dst := some 54))); (with_reducible apply wpl_appendB); exact rfl; exact rfl; infer_instance; infer_instance; infer_instance; (exact hl6); omega; intro A5 c5 wa5 _ ho5 g5 hcap5; have hN5 : NewA w3 A5 := NewA.monoS (w0 := w3) inferInstance; have or5 : OffA (rowOf L3) A5 := OffA.newOld hN5 (fun ad e => hO3.lt e); have oz5 : OffA (only z) A5 := ⟨fun ad e hk => by have q1 := hN5.out ad e; have q2 := hb3.lt; have q3 : ad.block = z := hk; omega⟩) | ((with_reducible apply (stop_dst (dst := some 56))); (try simp only [Act.put, sA, sB, sC]); ((with_reducible apply (wpl_bslice (dst := some 56))); (exact run_opens1 _ _ _ _ _ _ _ _); intro ze wb _ _ _)) | ((with_reducible apply (stop_dst (dst := some 57))); (with_reducible apply (wpl_appendR (α := OM))); exact rfl; exact rfl; infer_instance; infer_instance; (exact HR.blkL (l := cellsOf [⟨id, wh, 1, now, A5, c5, pd⟩]) (z := ze) (by show HB _ ze _ #[.int .i64 id, .int .i64 ((wh : Nat) : Int), .int .i64 ((1 : Nat) : Int), .int .i64 now, .slice A5 pd.length c5]; rw [hl6]; exact inferInstance)); exact rfl; exact rfl; (omega); (decide); (decide); intro A7 c7 wa7 _ ho7 g7 hcap7))
        refine wpList_nil ?_
        unfold onlyN
        refine hK_.out _ _ inferInstance (fun _ => ?_)
        clear hK_ K_
        try simp only [Act.put, sA]; try simp only [sB, sC]
        refine goH (i := 16) (by kernel_rfl) rfl (fun K_ hK_ => ?_)
        rw [if_pos (by kernel_rfl)]
        refine wpr_of_list ?_
        (first | ((with_reducible apply (stop_dst (dst := some 50))); (try simp only [Act.put, sA, sB, sC]); ((with_reducible apply (wpl_bslice (dst := some 50))); (exact run_empty _); intro zn wb _ _ _)) | ((with_reducible apply (stop_dst (dst := some 54))); (with_reducible apply wpl_appendB); exact rfl; exact rfl; infer_instance; infer_instance; infer_instance; (exact hl6); omega; intro A5 c5 wa5 _ ho5 g5 hcap5; have hN5 : NewA w3 A5 := NewA.monoS (w0 := w3) inferInstance; have or5 : OffA (rowOf L3) A5 := OffA.newOld hN5 (fun ad e => hO3.lt e); have oz5 : OffA (only z) A5 := ⟨fun ad e hk => by have q1 := hN5.out ad e; have q2 := hb3.lt; have q3 : ad.block = z := hk; omega⟩) | ((with_reducible apply (stop_dst (dst := some 56))); (try simp only [Act.put, sA, sB, sC]); ((with_reducible apply (wpl_bslice (dst := some 56))); (exact run_opens1 _ _ _ _ _ _ _ _); intro ze wb _ _ _)) | ((with_reducible apply (stop_dst (dst := some 57))); (with_reducible apply (wpl_appendR (α := OM))); exact rfl; exact rfl; infer_instance; infer_instance; (exact HR.blkL (l := cellsOf [⟨id, wh, 1, now, A5, c5, pd⟩]) (z := ze) (by show HB _ ze _ #[.int .i64 id, .int .i64 ((wh : Nat) : Int), .int .i64 ((1 : Nat) : Int), .int .i64 now, .slice A5 pd.length c5]; rw [hl6]; exact inferInstance)); exact rfl; exact rfl; (omega); (decide); (decide); intro A7 c7 wa7 _ ho7 g7 hcap7) | ((with_reducible apply wpl_appendB); exact rfl; exact rfl; infer_instance; (first | exact inferInstance | exact ⟨Own.nil _ _ _⟩); infer_instance; (first | with_reducible assumption | (with_reducible exact H32.len _) | (focus (simp; done)) | omega); (first | with_reducible assumption | omega); intro A' c' wa _ _ _ hcap))
        refine wpList_nil ?_
        unfold onlyN
        refine hK_.out _ _ inferInstance (fun _ => ?_)
        clear hK_ K_
        try simp only [Act.put, sA]; try simp only [sB, sC]
        refine' takeH (i := 17) (v := _) rfl (by kernel_rfl) (by kernel_rfl) (by kernel_rfl) (fun _ _ _ h => h) (yields_of (by rfl) (fun w' _ => ?_)) inferInstance ?_
        rotate_left
        · (go_simp; try with_reducible rfl)
        try simp only [Act.put, sA]; try simp only [sB, sC]
        refine' takeH (i := 18) (v := _) rfl (by kernel_rfl) (by kernel_rfl) (by kernel_rfl) (fun _ _ _ h => h) (yields_of (by rfl) (fun w' _ => ?_)) inferInstance ?_
        rotate_left
        · (first | ((with_reducible apply (ev_fieldE (t := 90))); (exact Try.underlying90); exact rfl; (kernel_rfl); exact rfl; infer_instance; (exact cells_pos (by decide) (by omega))) | (go_simp; try with_reducible rfl))
        try simp only [Act.put, sA]; try simp only [sB, sC]
        refine goH (i := 19) (by kernel_rfl) rfl (fun K_ hK_ => ?_)
        rw [if_pos (by kernel_rfl)]
        refine wpr_of_list ?_
        (first | ((with_reducible apply (stop_dst (dst := some 50))); (try simp only [Act.put, sA, sB, sC]); ((with_reducible apply (wpl_bslice (dst := some 50))); (exact run_empty _); intro zn wb _ _ _)) | ((with_reducible apply (stop_dst (dst := some 54))); (with_reducible apply wpl_appendB); exact rfl; exact rfl; infer_instance; infer_instance; infer_instance; (exact hl6); omega; intro A5 c5 wa5 _ ho5 g5 hcap5; have hN5 : NewA w3 A5 := NewA.monoS (w0 := w3) inferInstance; have or5 : OffA (rowOf L3) A5 := OffA.newOld hN5 (fun ad e => hO3.lt e); have oz5 : OffA (only z) A5 := ⟨fun ad e hk => by have q1 := hN5.out ad e; have q2 := hb3.lt; have q3 : ad.block = z := hk; omega⟩) | ((with_reducible apply (stop_dst (dst := some 56))); (try simp only [Act.put, sA, sB, sC]); ((with_reducible apply (wpl_bslice (dst := some 56))); (exact run_opens1 _ _ _ _ _ _ _ _); intro ze wb _ _ _)) | ((with_reducible apply (stop_dst (dst := some 57))); (with_reducible apply (wpl_appendR (α := OM))); exact rfl; exact rfl; infer_instance; infer_instance; (exact HR.blkL (l := cellsOf [⟨id, wh, 1, now, A5, c5, pd⟩]) (z := ze) (by show HB _ ze _ #[.int .i64 id, .int .i64 ((wh : Nat) : Int), .int .i64 ((1 : Nat) : Int), .int .i64 now, .slice A5 pd.length c5]; rw [hl6]; exact inferInstance)); exact rfl; exact rfl; (omega); (decide); (decide); intro A7 c7 wa7 _ ho7 g7 hcap7) | ((with_reducible apply wpl_storerow); exact rfl; exact rfl; infer_instance; infer_instance; (first | with_reducible assumption | (with_reducible exact enc_sz _ rfl) | kernel_rfl); (first | with_reducible assumption | (with_reducible exact enc_sz _ rfl) | kernel_rfl); (first | (with_reducible exact u8s_one _) | with_reducible assumption | (with_reducible exact enc_one _) | kernel_rfl); intro ws _ _) | ((with_reducible apply wpl_storecell); exact rfl; exact rfl; infer_instance; exact rfl; (first | with_reducible assumption | omega | (focus (simp; done)) | (focus (simp; omega; done)) | decide); intro ws _ _) | ((with_reducible apply (wpl_storeint (t := 3))); exact rfl; exact rfl; infer_instance; (first | with_reducible assumption | omega); intro ws _ _) | ((with_reducible apply (wpl_storebyte (t := 5))); exact rfl; exact rfl; infer_instance; (first | with_reducible assumption | omega | (focus (simp; done)) | (focus (simp; omega; done)) | decide); (constructor <;> omega); intro ws _ _))
        refine wpList_nil ?_
        unfold onlyN
        refine hK_.out _ _ inferInstance (fun _ => ?_)
        clear hK_ K_
        try simp only [Act.put]
        refine wpAnyH_done (by kernel_rfl) ?_ _
      case' br1_9 =>
        rw [if_pos (by kernel_rfl)]
        refine wpr_of_list ?_
        (first | ((with_reducible apply (stop_dst (dst := some 50))); (try simp only [Act.put, sA, sB, sC]); ((with_reducible apply (wpl_bslice (dst := some 50))); (exact run_empty _); intro zn wb _ _ _)) | ((with_reducible apply (stop_dst (dst := some 54))); (with_reducible apply wpl_appendB); exact rfl; exact rfl; infer_instance; infer_instance; infer_instance; (exact hl6); omega; intro A5 c5 wa5 _ ho5 g5 hcap5; have hN5 : NewA w3 A5 := NewA.monoS (w0 := w3) inferInstance; have or5 : OffA (rowOf L3) A5 := OffA.newOld hN5 (fun ad e => hO3.lt e); have oz5 : OffA (only z) A5 := ⟨fun ad e hk => by have q1 := hN5.out ad e; have q2 := hb3.lt; have q3 : ad.block = z := hk; omega⟩) | ((with_reducible apply (stop_dst (dst := some 56))); (try simp only [Act.put, sA, sB, sC]); ((with_reducible apply (wpl_bslice (dst := some 56))); (exact run_opens1 _ _ _ _ _ _ _ _); intro ze wb _ _ _)) | ((with_reducible apply (stop_dst (dst := some 57))); (with_reducible apply (wpl_appendR (α := OM))); exact rfl; exact rfl; infer_instance; infer_instance; (exact HR.blkL (l := cellsOf [⟨id, wh, 1, now, A5, c5, pd⟩]) (z := ze) (by show HB _ ze _ #[.int .i64 id, .int .i64 ((wh : Nat) : Int), .int .i64 ((1 : Nat) : Int), .int .i64 now, .slice A5 pd.length c5]; rw [hl6]; exact inferInstance)); exact rfl; exact rfl; (omega); (decide); (decide); intro A7 c7 wa7 _ ho7 g7 hcap7))
        refine wpList_nil ?_
        unfold onlyN
        refine hK_.out _ _ inferInstance (fun _ => ?_)
        clear hK_ K_
        try simp only [Act.put, sA]; try simp only [sB, sC]
        refine wpAnyH_ready (rs := [4, 13]) (by kernel_rfl) (by simp) (AllReadyH.cons rfl (fun K_ hK_ => ?br2_4) (AllReadyH.cons rfl (fun K_ hK_ => ?br2_13) AllReadyH.nil))
        case' br2_4 =>
          rw [if_pos (by kernel_rfl)]
          refine wpr_of_list ?_
          (first | ((with_reducible apply (stop_dst (dst := some 50))); (try simp only [Act.put, sA, sB, sC]); ((with_reducible apply (wpl_bslice (dst := some 50))); (exact run_empty _); intro zn wb _ _ _)) | ((with_reducible apply (stop_dst (dst := some 54))); (with_reducible apply wpl_appendB); exact rfl; exact rfl; infer_instance; infer_instance; infer_instance; (exact hl6); omega; intro A5 c5 wa5 _ ho5 g5 hcap5; have hN5 : NewA w3 A5 := NewA.monoS (w0 := w3) inferInstance; have or5 : OffA (rowOf L3) A5 := OffA.newOld hN5 (fun ad e => hO3.lt e); have oz5 : OffA (only z) A5 := ⟨fun ad e hk => by have q1 := hN5.out ad e; have q2 := hb3.lt; have q3 : ad.block = z := hk; omega⟩) | ((with_reducible apply (stop_dst (dst := some 56))); (try simp only [Act.put, sA, sB, sC]); ((with_reducible apply (wpl_bslice (dst := some 56))); (exact run_opens1 _ _ _ _ _ _ _ _); intro ze wb _ _ _)) | ((with_reducible apply (stop_dst (dst := some 57))); (with_reducible apply (wpl_appendR (α := OM))); exact rfl; exact rfl; infer_instance; infer_instance; (exact HR.blkL (l := cellsOf [⟨id, wh, 1, now, A5, c5, pd⟩]) (z := ze) (by show HB _ ze _ #[.int .i64 id, .int .i64 ((wh : Nat) : Int), .int .i64 ((1 : Nat) : Int), .int .i64 now, .slice A5 pd.length c5]; rw [hl6]; exact inferInstance)); exact rfl; exact rfl; (omega); (decide); (decide); intro A7 c7 wa7 _ ho7 g7 hcap7) | ((with_reducible apply wpl_loadrow); exact rfl; infer_instance; infer_instance; (first | with_reducible assumption | (with_reducible exact enc_sz _ rfl) | kernel_rfl)) | ((with_reducible apply wpl_loadcellN); exact rfl; infer_instance; exact rfl) | ((with_reducible apply (wpl_loadE (α := OM) (t := 90))); infer_instance; exact rfl; infer_instance; exact rfl; (decide); (first | with_reducible assumption | omega | (focus (simp; done)) | (focus (simp; omega; done)) | decide)) | ((with_reducible apply (wpl_loadF (α := OM))); infer_instance; exact rfl; infer_instance; exact rfl; (first | with_reducible assumption | omega | (focus (simp; done)) | (focus (simp; omega; done)) | decide); exact rfl) | ((with_reducible apply (wpl_loadB (t := 5))); exact rfl; infer_instance; infer_instance; (first | with_reducible assumption | omega)) | ((with_reducible apply (wpl_loadint (t := 3))); exact rfl; infer_instance; infer_instance; (first | with_reducible assumption | omega)) | ((with_reducible apply (wpl_loadbyte (t := 5))); exact rfl; infer_instance; infer_instance; (first | with_reducible assumption | omega)))
          refine wpList_nil ?_
          unfold onlyN
          refine hK_.out _ _ inferInstance (fun _ => ?_)
          clear hK_ K_
          try simp only [Act.put, sA]; try simp only [sB, sC]
          refine goH (i := 13) (by kernel_rfl) rfl (fun K_ hK_ => ?_)
          rw [if_pos (by kernel_rfl)]
          refine wpr_of_list ?_
          (first | ((with_reducible apply (stop_dst (dst := some 50))); (try simp only [Act.put, sA, sB, sC]); ((with_reducible apply (wpl_bslice (dst := some 50))); (exact run_empty _); intro zn wb _ _ _)) | ((with_reducible apply (stop_dst (dst := some 54))); (with_reducible apply wpl_appendB); exact rfl; exact rfl; infer_instance; infer_instance; infer_instance; (exact hl6); omega; intro A5 c5 wa5 _ ho5 g5 hcap5; have hN5 : NewA w3 A5 := NewA.monoS (w0 := w3) inferInstance; have or5 : OffA (rowOf L3) A5 := OffA.newOld hN5 (fun ad e => hO3.lt e); have oz5 : OffA (only z) A5 := ⟨fun ad e hk => by have q1 := hN5.out ad e; have q2 := hb3.lt; have q3 : ad.block = z := hk; omega⟩) | ((with_reducible apply (stop_dst (dst := some 56))); (try simp only [Act.put, sA, sB, sC]); ((with_reducible apply (wpl_bslice (dst := some 56))); (exact run_opens1 _ _ _ _ _ _ _ _); intro ze wb _ _ _)) | ((with_reducible apply (stop_dst (dst := some 57))); (with_reducible apply (wpl_appendR (α := OM))); exact rfl; exact rfl; infer_instance; infer_instance; (exact HR.blkL (l := cellsOf [⟨id, wh, 1, now, A5, c5, pd⟩]) (z := ze) (by show HB _ ze _ #[.int .i64 id, .int .i64 ((wh : Nat) : Int), .int .i64 ((1 : Nat) : Int), .int .i64 now, .slice A5 pd.length c5]; rw [hl6]; exact inferInstance)); exact rfl; exact rfl; (omega); (decide); (decide); intro A7 c7 wa7 _ ho7 g7 hcap7) | ((with_reducible apply wpl_appendB); exact rfl; exact rfl; infer_instance; (first | exact inferInstance | exact ⟨Own.nil _ _ _⟩); infer_instance; (first | with_reducible assumption | (with_reducible exact H32.len _) | (focus (simp; done)) | omega); (first | with_reducible assumption | omega); intro A' c' wa _ _ _ hcap))
          refine wpList_nil ?_
          unfold onlyN
          refine hK_.out _ _ inferInstance (fun _ => ?_)
          clear hK_ K_
          try simp only [Act.put, sA]; try simp only [sB, sC]
          refine' takeH (i := 14) (v := _) rfl (by kernel_rfl) (by kernel_rfl) (by kernel_rfl) (fun _ _ _ h => h) (yields_of (by rfl) (fun w' _ => ?_)) inferInstance ?_
          rotate_left
          · (go_simp; try with_reducible rfl)
          try simp only [Act.put, sA]; try simp only [sB, sC]
          refine goH (i := 15) (by kernel_rfl) rfl (fun K_ hK_ => ?_)
          rw [if_pos (by kernel_rfl)]
          refine wpr_of_list ?_
          (first | ((with_reducible apply (stop_dst (dst := some 50))); (try simp only [Act.put, sA, sB, sC]); ((with_reducible apply (wpl_bslice (dst := some 50))); (exact run_empty _); intro zn wb _ _ _)) | ((with_reducible apply (stop_dst (dst := some 54))); (with_reducible apply wpl_appendB); exact rfl; exact rfl; infer_instance; infer_instance; infer_instance; (exact hl6); omega; intro A5 c5 wa5 _ ho5 g5 hcap5; have hN5 : NewA w3 A5 := NewA.monoS (w0 := w3) inferInstance; have or5 : OffA (rowOf L3) A5 := OffA.newOld hN5 (fun ad e => hO3.lt e); have oz5 : OffA (only z) A5 := ⟨fun ad e hk => by have q1 := hN5.out ad e; have q2 := hb3.lt; have q3 : ad.block = z := hk; omega⟩) | ((with_reducible apply (stop_dst (dst := some 56))); (try simp only [Act.put, sA, sB, sC]); ((with_reducible apply (wpl_bslice (dst := some 56))); (exact run_opens1 _ _ _ _ _ _ _ _); intro ze wb _ _ _)) | ((with_reducible apply (stop_dst (dst := some 57))); (with_reducible apply (wpl_appendR (α := OM))); exact rfl; exact rfl; infer_instance; infer_instance; (exact HR.blkL (l := cellsOf [⟨id, wh, 1, now, A5, c5, pd⟩]) (z := ze) (by show HB _ ze _ #[.int .i64 id, .int .i64 ((wh : Nat) : Int), .int .i64 ((1 : Nat) : Int), .int .i64 now, .slice A5 pd.length c5]; rw [hl6]; exact inferInstance)); exact rfl; exact rfl; (omega); (decide); (decide); intro A7 c7 wa7 _ ho7 g7 hcap7))
          refine wpList_nil ?_
          unfold onlyN
          refine hK_.out _ _ inferInstance (fun _ => ?_)
          clear hK_ K_
          try simp only [Act.put, sA]; try simp only [sB, sC]
          refine goH (i := 16) (by kernel_rfl) rfl (fun K_ hK_ => ?_)
          rw [if_pos (by kernel_rfl)]
          refine wpr_of_list ?_
          (first | ((with_reducible apply (stop_dst (dst := some 50))); (try simp only [Act.put, sA, sB, sC]); ((with_reducible apply (wpl_bslice (dst := some 50))); (exact run_empty _); intro zn wb _ _ _)) | ((with_reducible apply (stop_dst (dst := some 54))); (with_reducible apply wpl_appendB); exact rfl; exact rfl; infer_instance; infer_instance; infer_instance; (exact hl6); omega; intro A5 c5 wa5 _ ho5 g5 hcap5; have hN5 : NewA w3 A5 := NewA.monoS (w0 := w3) inferInstance; have or5 : OffA (rowOf L3) A5 := OffA.newOld hN5 (fun ad e => hO3.lt e); have oz5 : OffA (only z) A5 := ⟨fun ad e hk => by have q1 := hN5.out ad e; have q2 := hb3.lt; have q3 : ad.block = z := hk; omega⟩) | ((with_reducible apply (stop_dst (dst := some 56))); (try simp only [Act.put, sA, sB, sC]); ((with_reducible apply (wpl_bslice (dst := some 56))); (exact run_opens1 _ _ _ _ _ _ _ _); intro ze wb _ _ _)) | ((with_reducible apply (stop_dst (dst := some 57))); (with_reducible apply (wpl_appendR (α := OM))); exact rfl; exact rfl; infer_instance; infer_instance; (exact HR.blkL (l := cellsOf [⟨id, wh, 1, now, A5, c5, pd⟩]) (z := ze) (by show HB _ ze _ #[.int .i64 id, .int .i64 ((wh : Nat) : Int), .int .i64 ((1 : Nat) : Int), .int .i64 now, .slice A5 pd.length c5]; rw [hl6]; exact inferInstance)); exact rfl; exact rfl; (omega); (decide); (decide); intro A7 c7 wa7 _ ho7 g7 hcap7) | ((with_reducible apply wpl_appendB); exact rfl; exact rfl; infer_instance; (first | exact inferInstance | exact ⟨Own.nil _ _ _⟩); infer_instance; (first | with_reducible assumption | (with_reducible exact H32.len _) | (focus (simp; done)) | omega); (first | with_reducible assumption | omega); intro A' c' wa _ _ _ hcap))
          refine wpList_nil ?_
          unfold onlyN
          refine hK_.out _ _ inferInstance (fun _ => ?_)
          clear hK_ K_
          try simp only [Act.put, sA]; try simp only [sB, sC]
          refine' takeH (i := 17) (v := _) rfl (by kernel_rfl) (by kernel_rfl) (by kernel_rfl) (fun _ _ _ h => h) (yields_of (by rfl) (fun w' _ => ?_)) inferInstance ?_
          rotate_left
          · (go_simp; try with_reducible rfl)
          try simp only [Act.put, sA]; try simp only [sB, sC]
          refine' takeH (i := 18) (v := _) rfl (by kernel_rfl) (by kernel_rfl) (by kernel_rfl) (fun _ _ _ h => h) (yields_of (by rfl) (fun w' _ => ?_)) inferInstance ?_
          rotate_left
          · (first | ((with_reducible apply (ev_fieldE (t := 90))); (exact Try.underlying90); exact rfl; (kernel_rfl); exact rfl; infer_instance; (exact cells_pos (by decide) (by omega))) | (go_simp; try with_reducible rfl))
          try simp only [Act.put, sA]; try simp only [sB, sC]
          refine goH (i := 19) (by kernel_rfl) rfl (fun K_ hK_ => ?_)
          rw [if_pos (by kernel_rfl)]
          refine wpr_of_list ?_
          (first | ((with_reducible apply (stop_dst (dst := some 50))); (try simp only [Act.put, sA, sB, sC]); ((with_reducible apply (wpl_bslice (dst := some 50))); (exact run_empty _); intro zn wb _ _ _)) | ((with_reducible apply (stop_dst (dst := some 54))); (with_reducible apply wpl_appendB); exact rfl; exact rfl; infer_instance; infer_instance; infer_instance; (exact hl6); omega; intro A5 c5 wa5 _ ho5 g5 hcap5; have hN5 : NewA w3 A5 := NewA.monoS (w0 := w3) inferInstance; have or5 : OffA (rowOf L3) A5 := OffA.newOld hN5 (fun ad e => hO3.lt e); have oz5 : OffA (only z) A5 := ⟨fun ad e hk => by have q1 := hN5.out ad e; have q2 := hb3.lt; have q3 : ad.block = z := hk; omega⟩) | ((with_reducible apply (stop_dst (dst := some 56))); (try simp only [Act.put, sA, sB, sC]); ((with_reducible apply (wpl_bslice (dst := some 56))); (exact run_opens1 _ _ _ _ _ _ _ _); intro ze wb _ _ _)) | ((with_reducible apply (stop_dst (dst := some 57))); (with_reducible apply (wpl_appendR (α := OM))); exact rfl; exact rfl; infer_instance; infer_instance; (exact HR.blkL (l := cellsOf [⟨id, wh, 1, now, A5, c5, pd⟩]) (z := ze) (by show HB _ ze _ #[.int .i64 id, .int .i64 ((wh : Nat) : Int), .int .i64 ((1 : Nat) : Int), .int .i64 now, .slice A5 pd.length c5]; rw [hl6]; exact inferInstance)); exact rfl; exact rfl; (omega); (decide); (decide); intro A7 c7 wa7 _ ho7 g7 hcap7) | ((with_reducible apply wpl_storerow); exact rfl; exact rfl; infer_instance; infer_instance; (first | with_reducible assumption | (with_reducible exact enc_sz _ rfl) | kernel_rfl); (first | with_reducible assumption | (with_reducible exact enc_sz _ rfl) | kernel_rfl); (first | (with_reducible exact u8s_one _) | with_reducible assumption | (with_reducible exact enc_one _) | kernel_rfl); intro ws _ _) | ((with_reducible apply wpl_storecell); exact rfl; exact rfl; infer_instance; exact rfl; (first | with_reducible assumption | omega | (focus (simp; done)) | (focus (simp; omega; done)) | decide); intro ws _ _) | ((with_reducible apply (wpl_storeint (t := 3))); exact rfl; exact rfl; infer_instance; (first | with_reducible assumption | omega); intro ws _ _) | ((with_reducible apply (wpl_storebyte (t := 5))); exact rfl; exact rfl; infer_instance; (first | with_reducible assumption | omega | (focus (simp; done)) | (focus (simp; omega; done)) | decide); (constructor <;> omega); intro ws _ _))
          refine wpList_nil ?_
          unfold onlyN
          refine hK_.out _ _ inferInstance (fun _ => ?_)
          clear hK_ K_
          try simp only [Act.put]
          refine wpAnyH_done (by kernel_rfl) ?_ _
        case' br2_13 =>
          rw [if_pos (by kernel_rfl)]
          refine wpr_of_list ?_
          (first | ((with_reducible apply (stop_dst (dst := some 50))); (try simp only [Act.put, sA, sB, sC]); ((with_reducible apply (wpl_bslice (dst := some 50))); (exact run_empty _); intro zn wb _ _ _)) | ((with_reducible apply (stop_dst (dst := some 54))); (with_reducible apply wpl_appendB); exact rfl; exact rfl; infer_instance; infer_instance; infer_instance; (exact hl6); omega; intro A5 c5 wa5 _ ho5 g5 hcap5; have hN5 : NewA w3 A5 := NewA.monoS (w0 := w3) inferInstance; have or5 : OffA (rowOf L3) A5 := OffA.newOld hN5 (fun ad e => hO3.lt e); have oz5 : OffA (only z) A5 := ⟨fun ad e hk => by have q1 := hN5.out ad e; have q2 := hb3.lt; have q3 : ad.block = z := hk; omega⟩) | ((with_reducible apply (stop_dst (dst := some 56))); (try simp only [Act.put, sA, sB, sC]); ((with_reducible apply (wpl_bslice (dst := some 56))); (exact run_opens1 _ _ _ _ _ _ _ _); intro ze wb _ _ _)) | ((with_reducible apply (stop_dst (dst := some 57))); (with_reducible apply (wpl_appendR (α := OM))); exact rfl; exact rfl; infer_instance; infer_instance; (exact HR.blkL (l := cellsOf [⟨id, wh, 1, now, A5, c5, pd⟩]) (z := ze) (by show HB _ ze _ #[.int .i64 id, .int .i64 ((wh : Nat) : Int), .int .i64 ((1 : Nat) : Int), .int .i64 now, .slice A5 pd.length c5]; rw [hl6]; exact inferInstance)); exact rfl; exact rfl; (omega); (decide); (decide); intro A7 c7 wa7 _ ho7 g7 hcap7) | ((with_reducible apply wpl_appendB); exact rfl; exact rfl; infer_instance; (first | exact inferInstance | exact ⟨Own.nil _ _ _⟩); infer_instance; (first | with_reducible assumption | (with_reducible exact H32.len _) | (focus (simp; done)) | omega); (first | with_reducible assumption | omega); intro A' c' wa _ _ _ hcap))
          refine wpList_nil ?_
          unfold onlyN
          refine hK_.out _ _ inferInstance (fun _ => ?_)
          clear hK_ K_
          try simp only [Act.put, sA]; try simp only [sB, sC]
          refine' takeH (i := 14) (v := _) rfl (by kernel_rfl) (by kernel_rfl) (by kernel_rfl) (fun _ _ _ h => h) (yields_of (by rfl) (fun w' _ => ?_)) inferInstance ?_
          rotate_left
          · (go_simp; try with_reducible rfl)
          try simp only [Act.put, sA]; try simp only [sB, sC]
          refine wpAnyH_ready (rs := [4, 15]) (by kernel_rfl) (by simp) (AllReadyH.cons rfl (fun K_ hK_ => ?br3_4) (AllReadyH.cons rfl (fun K_ hK_ => ?br3_15) AllReadyH.nil))
          case' br3_4 =>
            rw [if_pos (by kernel_rfl)]
            refine wpr_of_list ?_
            (first | ((with_reducible apply (stop_dst (dst := some 50))); (try simp only [Act.put, sA, sB, sC]); ((with_reducible apply (wpl_bslice (dst := some 50))); (exact run_empty _); intro zn wb _ _ _)) | ((with_reducible apply (stop_dst (dst := some 54))); (with_reducible apply wpl_appendB); exact rfl; exact rfl; infer_instance; infer_instance; infer_instance; (exact hl6); omega; intro A5 c5 wa5 _ ho5 g5 hcap5; have hN5 : NewA w3 A5 := NewA.monoS (w0 := w3) inferInstance; have or5 : OffA (rowOf L3) A5 := OffA.newOld hN5 (fun ad e => hO3.lt e); have oz5 : OffA (only z) A5 := ⟨fun ad e hk => by have q1 := hN5.out ad e; have q2 := hb3.lt; have q3 : ad.block = z := hk; omega⟩) | ((with_reducible apply (stop_dst (dst := some 56))); (try simp only [Act.put, sA, sB, sC]); ((with_reducible apply (wpl_bslice (dst := some 56))); (exact run_opens1 _ _ _ _ _ _ _ _); intro ze wb _ _ _)) | ((with_reducible apply (stop_dst (dst := some 57))); (with_reducible apply (wpl_appendR (α := OM))); exact rfl; exact rfl; infer_instance; infer_instance; (exact HR.blkL (l := cellsOf [⟨id, wh, 1, now, A5, c5, pd⟩]) (z := ze) (by show HB _ ze _ #[.int .i64 id, .int .i64 ((wh : Nat) : Int), .int .i64 ((1 : Nat) : Int), .int .i64 now, .slice A5 pd.length c5]; rw [hl6]; exact inferInstance)); exact rfl; exact rfl; (omega); (decide); (decide); intro A7 c7 wa7 _ ho7 g7 hcap7) | ((with_reducible apply wpl_loadrow); exact rfl; infer_instance; infer_instance; (first | with_reducible assumption | (with_reducible exact enc_sz _ rfl) | kernel_rfl)) | ((with_reducible apply wpl_loadcellN); exact rfl; infer_instance; exact rfl) | ((with_reducible apply (wpl_loadE (α := OM) (t := 90))); infer_instance; exact rfl; infer_instance; exact rfl; (decide); (first | with_reducible assumption | omega | (focus (simp; done)) | (focus (simp; omega; done)) | decide)) | ((with_reducible apply (wpl_loadF (α := OM))); infer_instance; exact rfl; infer_instance; exact rfl; (first | with_reducible assumption | omega | (focus (simp; done)) | (focus (simp; omega; done)) | decide); exact rfl) | ((with_reducible apply (wpl_loadB (t := 5))); exact rfl; infer_instance; infer_instance; (first | with_reducible assumption | omega)) | ((with_reducible apply (wpl_loadint (t := 3))); exact rfl; infer_instance; infer_instance; (first | with_reducible assumption | omega)) | ((with_reducible apply (wpl_loadbyte (t := 5))); exact rfl; infer_instance; infer_instance; (first | with_reducible assumption | omega)))
            refine wpList_nil ?_
            unfold onlyN
            refine hK_.out _ _ inferInstance (fun _ => ?_)
            clear hK_ K_
            try simp only [Act.put, sA]; try simp only [sB, sC]
            refine goH (i := 15) (by kernel_rfl) rfl (fun K_ hK_ => ?_)
            rw [if_pos (by kernel_rfl)]
            refine wpr_of_list ?_
            (first | ((with_reducible apply (stop_dst (dst := some 50))); (try simp only [Act.put, sA, sB, sC]); ((with_reducible apply (wpl_bslice (dst := some 50))); (exact run_empty _); intro zn wb _ _ _)) | ((with_reducible apply (stop_dst (dst := some 54))); (with_reducible apply wpl_appendB); exact rfl; exact rfl; infer_instance; infer_instance; infer_instance; (exact hl6); omega; intro A5 c5 wa5 _ ho5 g5 hcap5; have hN5 : NewA w3 A5 := NewA.monoS (w0 := w3) inferInstance; have or5 : OffA (rowOf L3) A5 := OffA.newOld hN5 (fun ad e => hO3.lt e); have oz5 : OffA (only z) A5 := ⟨fun ad e hk => by have q1 := hN5.out ad e; have q2 := hb3.lt; have q3 : ad.block = z := hk; omega⟩) | ((with_reducible apply (stop_dst (dst := some 56))); (try simp only [Act.put, sA, sB, sC]); ((with_reducible apply (wpl_bslice (dst := some 56))); (exact run_opens1 _ _ _ _ _ _ _ _); intro ze wb _ _ _)) | ((with_reducible apply (stop_dst (dst := some 57))); (with_reducible apply (wpl_appendR (α := OM))); exact rfl; exact rfl; infer_instance; infer_instance; (exact HR.blkL (l := cellsOf [⟨id, wh, 1, now, A5, c5, pd⟩]) (z := ze) (by show HB _ ze _ #[.int .i64 id, .int .i64 ((wh : Nat) : Int), .int .i64 ((1 : Nat) : Int), .int .i64 now, .slice A5 pd.length c5]; rw [hl6]; exact inferInstance)); exact rfl; exact rfl; (omega); (decide); (decide); intro A7 c7 wa7 _ ho7 g7 hcap7))
            refine wpList_nil ?_
            unfold onlyN
            refine hK_.out _ _ inferInstance (fun _ => ?_)
            clear hK_ K_
            try simp only [Act.put, sA]; try simp only [sB, sC]
            refine goH (i := 16) (by kernel_rfl) rfl (fun K_ hK_ => ?_)
            rw [if_pos (by kernel_rfl)]
            refine wpr_of_list ?_
            (first | ((with_reducible apply (stop_dst (dst := some 50))); (try simp only [Act.put, sA, sB, sC]); ((with_reducible apply (wpl_bslice (dst := some 50))); (exact run_empty _); intro zn wb _ _ _)) | ((with_reducible apply (stop_dst (dst := some 54))); (with_reducible apply wpl_appendB); exact rfl; exact rfl; infer_instance; infer_instance; infer_instance; (exact hl6); omega; intro A5 c5 wa5 _ ho5 g5 hcap5; have hN5 : NewA w3 A5 := NewA.monoS (w0 := w3) inferInstance; have or5 : OffA (rowOf L3) A5 := OffA.newOld hN5 (fun ad e => hO3.lt e); have oz5 : OffA (only z) A5 := ⟨fun ad e hk => by have q1 := hN5.out ad e; have q2 := hb3.lt; have q3 : ad.block = z := hk; omega⟩) | ((with_reducible apply (stop_dst (dst := some 56))); (try simp only [Act.put, sA, sB, sC]); ((with_reducible apply (wpl_bslice (dst := some 56))); (exact run_opens1 _ _ _ _ _ _ _ _); intro ze wb _ _ _)) | ((with_reducible apply (stop_dst (dst := some 57))); (with_reducible apply (wpl_appendR (α := OM))); exact rfl; exact rfl; infer_instance; infer_instance; (exact HR.blkL (l := cellsOf [⟨id, wh, 1, now, A5, c5, pd⟩]) (z := ze) (by show HB _ ze _ #[.int .i64 id, .int .i64 ((wh : Nat) : Int), .int .i64 ((1 : Nat) : Int), .int .i64 now, .slice A5 pd.length c5]; rw [hl6]; exact inferInstance)); exact rfl; exact rfl; (omega); (decide); (decide); intro A7 c7 wa7 _ ho7 g7 hcap7) | ((with_reducible apply wpl_appendB); exact rfl; exact rfl; infer_instance; (first | exact inferInstance | exact ⟨Own.nil _ _ _⟩); infer_instance; (first | with_reducible assumption | (with_reducible exact H32.len _) | (focus (simp; done)) | omega); (first | with_reducible assumption | omega); intro A' c' wa _ _ _ hcap))
            refine wpList_nil ?_
            unfold onlyN
            refine hK_.out _ _ inferInstance (fun _ => ?_)
            clear hK_ K_
            try simp only [Act.put, sA]; try simp only [sB, sC]
            refine' takeH (i := 17) (v := _) rfl (by kernel_rfl) (by kernel_rfl) (by kernel_rfl) (fun _ _ _ h => h) (yields_of (by rfl) (fun w' _ => ?_)) inferInstance ?_
            rotate_left
            · (go_simp; try with_reducible rfl)
            try simp only [Act.put, sA]; try simp only [sB, sC]
            refine' takeH (i := 18) (v := _) rfl (by kernel_rfl) (by kernel_rfl) (by kernel_rfl) (fun _ _ _ h => h) (yields_of (by rfl) (fun w' _ => ?_)) inferInstance ?_
            rotate_left
            · (first | ((with_reducible apply (ev_fieldE (t := 90))); (exact Try.underlying90); exact rfl; (kernel_rfl); exact rfl; infer_instance; (exact cells_pos (by decide) (by omega))) | (go_simp; try with_reducible rfl))
            try simp only [Act.put, sA]; try simp only [sB, sC]
            refine goH (i := 19) (by kernel_rfl) rfl (fun K_ hK_ => ?_)
            rw [if_pos (by kernel_rfl)]
            refine wpr_of_list ?_
            (first | ((with_reducible apply (stop_dst (dst := some 50))); (try simp only [Act.put, sA, sB, sC]); ((with_reducible apply (wpl_bslice (dst := some 50))); (exact run_empty _); intro zn wb _ _ _)) | ((with_reducible apply (stop_dst (dst := some 54))); (with_reducible apply wpl_appendB); exact rfl; exact rfl; infer_instance; infer_instance; infer_instance; (exact hl6); omega; intro A5 c5 wa5 _ ho5 g5 hcap5; have hN5 : NewA w3 A5 := NewA.monoS (w0 := w3) inferInstance; have or5 : OffA (rowOf L3) A5 := OffA.newOld hN5 (fun ad e => hO3.lt e); have oz5 : OffA (only z) A5 := ⟨fun ad e hk => by have q1 := hN5.out ad e; have q2 := hb3.lt; have q3 : ad.block = z := hk; omega⟩) | ((with_reducible apply (stop_dst (dst := some 56))); (try simp only [Act.put, sA, sB, sC]); ((with_reducible apply (wpl_bslice (dst := some 56))); (exact run_opens1 _ _ _ _ _ _ _ _); intro ze wb _ _ _)) | ((with_reducible apply (stop_dst (dst := some 57))); (with_reducible apply (wpl_appendR (α := OM))); exact rfl; exact rfl; infer_instance; infer_instance; (exact HR.blkL (l := cellsOf [⟨id, wh, 1, now, A5, c5, pd⟩]) (z := ze) (by show HB _ ze _ #[.int .i64 id, .int .i64 ((wh : Nat) : Int), .int .i64 ((1 : Nat) : Int), .int .i64 now, .slice A5 pd.length c5]; rw [hl6]; exact inferInstance)); exact rfl; exact rfl; (omega); (decide); (decide); intro A7 c7 wa7 _ ho7 g7 hcap7) | ((with_reducible apply wpl_storerow); exact rfl; exact rfl; infer_instance; infer_instance; (first | with_reducible assumption | (with_reducible exact enc_sz _ rfl) | kernel_rfl); (first | with_reducible assumption | (with_reducible exact enc_sz _ rfl) | kernel_rfl); (first | (with_reducible exact u8s_one _) | with_reducible assumption | (with_reducible exact enc_one _) | kernel_rfl); intro ws _ _) | ((with_reducible apply wpl_storecell); exact rfl; exact rfl; infer_instance; exact rfl; (first | with_reducible assumption | omega | (focus (simp; done)) | (focus (simp; omega; done)) | decide); intro ws _ _) | ((with_reducible apply (wpl_storeint (t := 3))); exact rfl; exact rfl; infer_instance; (first | with_reducible assumption | omega); intro ws _ _) | ((with_reducible apply (wpl_storebyte (t := 5))); exact rfl; exact rfl; infer_instance; (first | with_reducible assumption | omega | (focus (simp; done)) | (focus (simp; omega; done)) | decide); (constructor <;> omega); intro ws _ _))
            refine wpList_nil ?_
            unfold onlyN
            refine hK_.out _ _ inferInstance (fun _ => ?_)
            clear hK_ K_
            try simp only [Act.put]
            refine wpAnyH_done (by kernel_rfl) ?_ _
          case' br3_15 =>
            rw [if_pos (by kernel_rfl)]
            refine wpr_of_list ?_
            (first | ((with_reducible apply (stop_dst (dst := some 50))); (try simp only [Act.put, sA, sB, sC]); ((with_reducible apply (wpl_bslice (dst := some 50))); (exact run_empty _); intro zn wb _ _ _)) | ((with_reducible apply (stop_dst (dst := some 54))); (with_reducible apply wpl_appendB); exact rfl; exact rfl; infer_instance; infer_instance; infer_instance; (exact hl6); omega; intro A5 c5 wa5 _ ho5 g5 hcap5; have hN5 : NewA w3 A5 := NewA.monoS (w0 := w3) inferInstance; have or5 : OffA (rowOf L3) A5 := OffA.newOld hN5 (fun ad e => hO3.lt e); have oz5 : OffA (only z) A5 := ⟨fun ad e hk => by have q1 := hN5.out ad e; have q2 := hb3.lt; have q3 : ad.block = z := hk; omega⟩) | ((with_reducible apply (stop_dst (dst := some 56))); (try simp only [Act.put, sA, sB, sC]); ((with_reducible apply (wpl_bslice (dst := some 56))); (exact run_opens1 _ _ _ _ _ _ _ _); intro ze wb _ _ _)) | ((with_reducible apply (stop_dst (dst := some 57))); (with_reducible apply (wpl_appendR (α := OM))); exact rfl; exact rfl; infer_instance; infer_instance; (exact HR.blkL (l := cellsOf [⟨id, wh, 1, now, A5, c5, pd⟩]) (z := ze) (by show HB _ ze _ #[.int .i64 id, .int .i64 ((wh : Nat) : Int), .int .i64 ((1 : Nat) : Int), .int .i64 now, .slice A5 pd.length c5]; rw [hl6]; exact inferInstance)); exact rfl; exact rfl; (omega); (decide); (decide); intro A7 c7 wa7 _ ho7 g7 hcap7))
            refine wpList_nil ?_
            unfold onlyN
            refine hK_.out _ _ inferInstance (fun _ => ?_)
            clear hK_ K_
            try simp only [Act.put, sA]; try simp only [sB, sC]
            refine goH (i := 4) (by kernel_rfl) rfl (fun K_ hK_ => ?_)
            rw [if_pos (by kernel_rfl)]
            refine wpr_of_list ?_
            (first | ((with_reducible apply (stop_dst (dst := some 50))); (try simp only [Act.put, sA, sB, sC]); ((with_reducible apply (wpl_bslice (dst := some 50))); (exact run_empty _); intro zn wb _ _ _)) | ((with_reducible apply (stop_dst (dst := some 54))); (with_reducible apply wpl_appendB); exact rfl; exact rfl; infer_instance; infer_instance; infer_instance; (exact hl6); omega; intro A5 c5 wa5 _ ho5 g5 hcap5; have hN5 : NewA w3 A5 := NewA.monoS (w0 := w3) inferInstance; have or5 : OffA (rowOf L3) A5 := OffA.newOld hN5 (fun ad e => hO3.lt e); have oz5 : OffA (only z) A5 := ⟨fun ad e hk => by have q1 := hN5.out ad e; have q2 := hb3.lt; have q3 : ad.block = z := hk; omega⟩) | ((with_reducible apply (stop_dst (dst := some 56))); (try simp only [Act.put, sA, sB, sC]); ((with_reducible apply (wpl_bslice (dst := some 56))); (exact run_opens1 _ _ _ _ _ _ _ _); intro ze wb _ _ _)) | ((with_reducible apply (stop_dst (dst := some 57))); (with_reducible apply (wpl_appendR (α := OM))); exact rfl; exact rfl; infer_instance; infer_instance; (exact HR.blkL (l := cellsOf [⟨id, wh, 1, now, A5, c5, pd⟩]) (z := ze) (by show HB _ ze _ #[.int .i64 id, .int .i64 ((wh : Nat) : Int), .int .i64 ((1 : Nat) : Int), .int .i64 now, .slice A5 pd.length c5]; rw [hl6]; exact inferInstance)); exact rfl; exact rfl; (omega); (decide); (decide); intro A7 c7 wa7 _ ho7 g7 hcap7) | ((with_reducible apply wpl_loadrow); exact rfl; infer_instance; infer_instance; (first | with_reducible assumption | (with_reducible exact enc_sz _ rfl) | kernel_rfl)) | ((with_reducible apply wpl_loadcellN); exact rfl; infer_instance; exact rfl) | ((with_reducible apply (wpl_loadE (α := OM) (t := 90))); infer_instance; exact rfl; infer_instance; exact rfl; (decide); (first | with_reducible assumption | omega | (focus (simp; done)) | (focus (simp; omega; done)) | decide)) | ((with_reducible apply (wpl_loadF (α := OM))); infer_instance; exact rfl; infer_instance; exact rfl; (first | with_reducible assumption | omega | (focus (simp; done)) | (focus (simp; omega; done)) | decide); exact rfl) | ((with_reducible apply (wpl_loadB (t := 5))); exact rfl; infer_instance; infer_instance; (first | with_reducible assumption | omega)) | ((with_reducible apply (wpl_loadint (t := 3))); exact rfl; infer_instance; infer_instance; (first | with_reducible assumption | omega)) | ((with_reducible apply (wpl_loadbyte (t := 5))); exact rfl; infer_instance; infer_instance; (first | with_reducible assumption | omega)))
            refine wpList_nil ?_
            unfold onlyN
            refine hK_.out _ _ inferInstance (fun _ => ?_)
            clear hK_ K_
            try simp only [Act.put, sA]; try simp only [sB, sC]
            refine goH (i := 16) (by kernel_rfl) rfl (fun K_ hK_ => ?_)
            rw [if_pos (by kernel_rfl)]
            refine wpr_of_list ?_
            (first | ((with_reducible apply (stop_dst (dst := some 50))); (try simp only [Act.put, sA, sB, sC]); ((with_reducible apply (wpl_bslice (dst := some 50))); (exact run_empty _); intro zn wb _ _ _)) | ((with_reducible apply (stop_dst (dst := some 54))); (with_reducible apply wpl_appendB); exact rfl; exact rfl; infer_instance; infer_instance; infer_instance; (exact hl6); omega; intro A5 c5 wa5 _ ho5 g5 hcap5; have hN5 : NewA w3 A5 := NewA.monoS (w0 := w3) inferInstance; have or5 : OffA (rowOf L3) A5 := OffA.newOld hN5 (fun ad e => hO3.lt e); have oz5 : OffA (only z) A5 := ⟨fun ad e hk => by have q1 := hN5.out ad e; have q2 := hb3.lt; have q3 : ad.block = z := hk; omega⟩) | ((with_reducible apply (stop_dst (dst := some 56))); (try simp only [Act.put, sA, sB, sC]); ((with_reducible apply (wpl_bslice (dst := some 56))); (exact run_opens1 _ _ _ _ _ _ _ _); intro ze wb _ _ _)) | ((with_reducible apply (stop_dst (dst := some 57))); (with_reducible apply (wpl_appendR (α := OM))); exact rfl; exact rfl; infer_instance; infer_instance; (exact HR.blkL (l := cellsOf [⟨id, wh, 1, now, A5, c5, pd⟩]) (z := ze) (by show HB _ ze _ #[.int .i64 id, .int .i64 ((wh : Nat) : Int), .int .i64 ((1 : Nat) : Int), .int .i64 now, .slice A5 pd.length c5]; rw [hl6]; exact inferInstance)); exact rfl; exact rfl; (omega); (decide); (decide); intro A7 c7 wa7 _ ho7 g7 hcap7) | ((with_reducible apply wpl_appendB); exact rfl; exact rfl; infer_instance; (first | exact inferInstance | exact ⟨Own.nil _ _ _⟩); infer_instance; (first | with_reducible assumption | (with_reducible exact H32.len _) | (focus (simp; done)) | omega); (first | with_reducible assumption | omega); intro A' c' wa _ _ _ hcap))
            refine wpList_nil ?_
            unfold onlyN
            refine hK_.out _ _ inferInstance (fun _ => ?_)
            clear hK_ K_
            try simp only [Act.put, sA]; try simp only [sB, sC]
            refine' takeH (i := 17) (v := _) rfl (by kernel_rfl) (by kernel_rfl) (by kernel_rfl) (fun _ _ _ h => h) (yields_of (by rfl) (fun w' _ => ?_)) inferInstance ?_
            rotate_left
            · (go_simp; try with_reducible rfl)
            try simp only [Act.put, sA]; try simp only [sB, sC]
            refine' takeH (i := 18) (v := _) rfl (by kernel_rfl) (by kernel_rfl) (by kernel_rfl) (fun _ _ _ h => h) (yields_of (by rfl) (fun w' _ => ?_)) inferInstance ?_
            rotate_left
            · (first | ((with_reducible apply (ev_fieldE (t := 90))); (exact Try.underlying90); exact rfl; (kernel_rfl); exact rfl; infer_instance; (exact cells_pos (by decide) (by omega))) | (go_simp; try with_reducible rfl))
            try simp only [Act.put, sA]; try simp only [sB, sC]
            refine goH (i := 19) (by kernel_rfl) rfl (fun K_ hK_ => ?_)
            rw [if_pos (by kernel_rfl)]
            refine wpr_of_list ?_
            (first | ((with_reducible apply (stop_dst (dst := some 50))); (try simp only [Act.put, sA, sB, sC]); ((with_reducible apply (wpl_bslice (dst := some 50))); (exact run_empty _); intro zn wb _ _ _)) | ((with_reducible apply (stop_dst (dst := some 54))); (with_reducible apply wpl_appendB); exact rfl; exact rfl; infer_instance; infer_instance; infer_instance; (exact hl6); omega; intro A5 c5 wa5 _ ho5 g5 hcap5; have hN5 : NewA w3 A5 := NewA.monoS (w0 := w3) inferInstance; have or5 : OffA (rowOf L3) A5 := OffA.newOld hN5 (fun ad e => hO3.lt e); have oz5 : OffA (only z) A5 := ⟨fun ad e hk => by have q1 := hN5.out ad e; have q2 := hb3.lt; have q3 : ad.block = z := hk; omega⟩) | ((with_reducible apply (stop_dst (dst := some 56))); (try simp only [Act.put, sA, sB, sC]); ((with_reducible apply (wpl_bslice (dst := some 56))); (exact run_opens1 _ _ _ _ _ _ _ _); intro ze wb _ _ _)) | ((with_reducible apply (stop_dst (dst := some 57))); (with_reducible apply (wpl_appendR (α := OM))); exact rfl; exact rfl; infer_instance; infer_instance; (exact HR.blkL (l := cellsOf [⟨id, wh, 1, now, A5, c5, pd⟩]) (z := ze) (by show HB _ ze _ #[.int .i64 id, .int .i64 ((wh : Nat) : Int), .int .i64 ((1 : Nat) : Int), .int .i64 now, .slice A5 pd.length c5]; rw [hl6]; exact inferInstance)); exact rfl; exact rfl; (omega); (decide); (decide); intro A7 c7 wa7 _ ho7 g7 hcap7) | ((with_reducible apply wpl_storerow); exact rfl; exact rfl; infer_instance; infer_instance; (first | with_reducible assumption | (with_reducible exact enc_sz _ rfl) | kernel_rfl); (first | with_reducible assumption | (with_reducible exact enc_sz _ rfl) | kernel_rfl); (first | (with_reducible exact u8s_one _) | with_reducible assumption | (with_reducible exact enc_one _) | kernel_rfl); intro ws _ _) | ((with_reducible apply wpl_storecell); exact rfl; exact rfl; infer_instance; exact rfl; (first | with_reducible assumption | omega | (focus (simp; done)) | (focus (simp; omega; done)) | decide); intro ws _ _) | ((with_reducible apply (wpl_storeint (t := 3))); exact rfl; exact rfl; infer_instance; (first | with_reducible assumption | omega); intro ws _ _) | ((with_reducible apply (wpl_storebyte (t := 5))); exact rfl; exact rfl; infer_instance; (first | with_reducible assumption | omega | (focus (simp; done)) | (focus (simp; omega; done)) | decide); (constructor <;> omega); intro ws _ _))
            refine wpList_nil ?_
            unfold onlyN
            refine hK_.out _ _ inferInstance (fun _ => ?_)
            clear hK_ K_
            try simp only [Act.put]
            refine wpAnyH_done (by kernel_rfl) ?_ _
      all_goals
        go_wp2_with (first | go_skip | ((with_reducible apply wpl_box_agg); exact rfl; intro z wz _ _ _) | ((with_reducible apply wpl_box_int); exact rfl; intro z wz _ _ _) | ((with_reducible apply wpl_box_slice); exact rfl; intro z wz _ _ _) | ((with_reducible apply wpl_box_str); exact rfl; intro z wz _ _ _) | ((with_reducible apply wpl_box_bool); exact rfl; intro z wz _ _ _) | ((with_reducible apply wpl_box_ptr); exact rfl; intro z wz _ _ _) | ((with_reducible apply wpl_loadrow); exact rfl; infer_instance; infer_instance; (first | with_reducible assumption | (with_reducible exact enc_sz _ rfl) | kernel_rfl)) | ((with_reducible apply wpl_loadcellN); exact rfl; infer_instance; exact rfl) | ((with_reducible apply wpl_storerow); exact rfl; exact rfl; infer_instance; infer_instance; (first | with_reducible assumption | (with_reducible exact enc_sz _ rfl) | kernel_rfl); (first | with_reducible assumption | (with_reducible exact enc_sz _ rfl) | kernel_rfl); (first | (with_reducible exact u8s_one _) | with_reducible assumption | (with_reducible exact enc_one _) | kernel_rfl); intro ws _ _) | ((with_reducible apply wpl_storecell); exact rfl; exact rfl; infer_instance; exact rfl; (first | with_reducible assumption | omega | (focus (simp; done)) | (focus (simp; omega; done)) | decide); intro ws _ _))
        go_end0
        have hC : Chg (zr z L3) w3 ws := (stepC (w0 := w3)).chg
        have hB2 : HB ws z 38 (#[.slice L3 m3 lc3, .int .i64 s1.N].setIfInBounds 0 (.slice A7 (m3 + 1) c7)) := inferInstance
        have hO2 : HO ws 90 5 A7 (m3 + 1) c7 (cellsOf (l3 ++ [⟨id, wh, 1, now, A5, c5, pd⟩])) := inferInstance
        have h5 : HO ws 5 1 A5 (0 + 6) c5 (bs ([] ++ pd)) := inferInstance
        refine ⟨rfl, XTo.trans hC03 hXw (XS.pushDone hX3 hlm3 hO3 hi3 hr3 hx3 hC hB2 hO2 (g7.le_ (w0 := w3)) (by show HO ws _ 1 A5 pd.length c5 (bs pd); rw [hl6]; exact h5) hN5 (hq3.app (o := ⟨id, wh, 1, now, A5, c5, pd⟩) HG.out ⟨by show 1 ≤ pd.length; omega, hw2, by show pd.length ≤ wh; omega, h3, h4⟩) rfl)⟩
  · have b8f : ((n : Int) == 8) = false := beqF (by omega)
    have hsp : firstS s id hi (d.drop 1) now = errS s := by rw [firstS, if_pos (by rw [List.length_drop]; omega)]
    rw [hsp]
    go_enter Try.func34, Try.ntmps34
    go_wp2_with (first | go_skip | ((with_reducible apply (wpl_box_agg (dst := some 4))); exact rfl; intro zf wzf _ _ _) | ((with_reducible apply (wpl_box_int (dst := some 4))); exact rfl; intro zf wzf _ _ _) | ((with_reducible apply (wpl_box_slice (dst := some 4))); exact rfl; intro zf wzf _ _ _) | ((with_reducible apply (wpl_box_str (dst := some 4))); exact rfl; intro zf wzf _ _ _) | ((with_reducible apply (wpl_box_bool (dst := some 4))); exact rfl; intro zf wzf _ _ _) | ((with_reducible apply (wpl_box_ptr (dst := some 4))); exact rfl; intro zf wzf _ _ _) | ((with_reducible apply wpl_box_agg); exact rfl; intro z wz _ _ _) | ((with_reducible apply wpl_box_int); exact rfl; intro z wz _ _ _) | ((with_reducible apply wpl_box_slice); exact rfl; intro z wz _ _ _) | ((with_reducible apply wpl_box_str); exact rfl; intro z wz _ _ _) | ((with_reducible apply wpl_box_bool); exact rfl; intro z wz _ _ _) | ((with_reducible apply wpl_box_ptr); exact rfl; intro z wz _ _ _) | ((with_reducible apply wpl_loadrow); exact rfl; infer_instance; infer_instance; (first | with_reducible assumption | (with_reducible exact enc_sz _ rfl) | kernel_rfl)) | ((with_reducible apply wpl_loadcellN); exact rfl; infer_instance; exact rfl) | ((with_reducible apply wpl_storerow); exact rfl; exact rfl; infer_instance; infer_instance; (first | with_reducible assumption | (with_reducible exact enc_sz _ rfl) | kernel_rfl); (first | with_reducible assumption | (with_reducible exact enc_sz _ rfl) | kernel_rfl); (first | (with_reducible exact u8s_one _) | with_reducible assumption | (with_reducible exact enc_one _) | kernel_rfl); intro ws _ _) | ((with_reducible apply wpl_storecell); exact rfl; exact rfl; infer_instance; exact rfl; (first | with_reducible assumption | omega | (focus (simp; done)) | (focus (simp; omega; done)) | decide); intro ws _ _))
    refine bodyPost_ret (results_none rfl _ _ _) rfl ?_
    have hC : Chg (only z) w ws := (stepC (w0 := w)).chg
    have hB2 : HB ws z 38 (#[.slice LA m lc, .int .i64 s.N].setIfInBounds 1 (.int .i64 ((s.N : Int) + 1))) := inferInstance
    exact ⟨rfl, XS.errDone h hlm hO0 hb hi0 hr hx hq hC hB2⟩
end Go.Proofs.Ytmeeopfdplaiaaa
