/- RsF, RsG, RsH, RsI -/
import Derived.Test.YtgjnjhhhbkidbaaGreatUcRlE
import Derived.Test.YtgjnjhhhbkidbaaGreatUcQmR
import Derived.Test.YtgjnjhhhbkidbaaGreatUcRsD
import Derived.Test.YtgjnjhhhbkidbaaGreatUcSnB
import Derived.Test.YtgjnjhhhbkidbaaGreatUcWsB
section
open Go Go.RowKit
namespace Go.Proofs.YtgjnjhhhbkidbaaGreat
/-- a sealer's cells -/
def slL (pub : H32) (fn : Value) (er : Int) : List Value := bs pub.l ++ [fn, .int .i64 er]
theorem slL_len (pub : H32) (fn : Value) (er : Int) : (slL pub fn er).toArray.size = 34 := by
 show (slL pub fn er).length = 34
 simp [slL, bs_length]
theorem sl_pub (pub : H32) (fn : Value) (er : Int) : ((slL pub fn er).toArray.toList.drop 0).take 32 = bs pub.l := by
 show (slL pub fn er).take 32 = _
 rw [slL, List.take_left' (bsl pub)]
theorem sl_32 (pub : H32) (fn : Value) (er : Int) : nth (slL pub fn er).toArray.toList 32 = some fn := by
 rw [← nth_get]
 show (bs pub.l ++ [fn, .int .i64 er])[32]? = _
 rw [List.getElem?_append_right (by rw [bsl]; exact Nat.le_refl _), bsl]
 rfl
theorem sl_33 (pub : H32) (fn : Value) (er : Int) : nth (slL pub fn er).toArray.toList 33 = some (.int .i64 er) := by
 rw [← nth_get]
 show (bs pub.l ++ [fn, .int .i64 er])[33]? = _
 rw [List.getElem?_append_right (by rw [bsl]; decide), bsl]
 rfl
theorem sl_set (pub : H32) (fn : Value) (er e2 : Int) : (slL pub fn er).toArray.setIfInBounds 33 (.int .i64 e2) = (slL pub fn e2).toArray := by
 rw [sA]
 congr 1
 show (bs pub.l ++ [fn, .int .i64 er]).set 33 _ = _
 rw [List.set_append_right _ _ (by rw [bsl]; decide), bsl]
 rfl
theorem HB.row_eqS {w : World} {g : Nat} {t : TypeId} {cs cs' : Array Value} (h : HB w g t cs) (e : cs = cs') : HB w g t cs' := e ▸ h
theorem run_err2 (p q : Int) (w : World) : (Instr.buildSlice 182 2 #[(0, .int .i64 p), (1, .int .i64 q)]).run Tryz.prog w = .ok (.slice (some ⟨w.heap.size, 0, none⟩) 2 2) (w.alloc (.cells #[.int .i64 p, .int .i64 q] 26)) := by kernel_rfl
instance cellErr : CellT Tryz.prog 26 := ⟨fun _ => by kernel_rfl, fun _ => by kernel_rfl⟩
set_option maxRecDepth 100000 in
set_option maxHeartbeats 1600000 in
theorem orErr0_calls {z : Nat} {w : World} [hz : HB w z 26 #[.int .i64 0, .int .i64 0]] :
    Calls Tryz.prog 60 #[.slice (some ⟨z, 0, none⟩) 2 2] w fun e w' => e = .returned (.int .i64 0) ∧ w' = w := by
 have hr : HR w (some ⟨z, 0, none⟩) [.int .i64 0, .int .i64 0] := ⟨by simpa using hz.rdL⟩
 go_enter Tryz.func60, Tryz.ntmps60
 go_wp2_with fail
 have hq : ((0 : Int) != 0) = false := by decide
 go_loopw [8] (fun iv wr => ∃ k : Nat, k ≤ 2 ∧ iv = .int .i64 (k : Int) ∧ wr = w) (fun iv _ => 2 - (intOf iv).toNat)
 case atStart => exact ⟨0, by decide, rfl, rfl⟩
 case round =>
  obtain ⟨k, hk, rfl, rfl⟩ := hrel
  rcases (show k = 0 ∨ k = 1 ∨ k = 2 by omega) with rfl | rfl | rfl
  · go_wp2_with (first | ((with_reducible apply wpl_loadcellN); exact rfl; infer_instance; exact rfl))
    exact ⟨⟨1, by decide, by first | rfl | trivial, by first | rfl | trivial⟩, by simp [intOf]⟩
  · go_wp2_with (first | ((with_reducible apply wpl_loadcellN); exact rfl; infer_instance; exact rfl))
    exact ⟨⟨2, by decide, by first | rfl | trivial, by first | rfl | trivial⟩, by simp [intOf]⟩
  · go_wp2_with fail
    go_ret
    exact ⟨rfl, rfl⟩
instance rowTEnvR2 : RowT Tryz.prog 78 34 := ⟨by kernel_rfl, _, Tryz.underlying78, rfl⟩
instance cellFnS : CellT Tryz.prog 76 := ⟨fun _ => by kernel_rfl, fun _ => by kernel_rfl⟩
theorem run_env2 (a : Option Addr) (n c : Nat) (b : Option Addr) (m d : Nat) (w : World) : (Instr.build 32 #[(0, .slice a n c), (1, .slice b m d)]).run Tryz.prog w = .ok (.agg #[.slice a n c, .slice b m d]) w := by kernel_rfl
/-- an envelope whose rows lie between two places -/
def EvX (w : World) (lo hi : Nat) (m : List UInt8) (P : List MkV) (v0 v1 : Value) : Prop := ∃ (M : Option Addr) (nb cb : Nat) (A : Option Addr) (n c : Nat) (l : List MarkR), v0 = .slice M nb cb ∧ v1 = .slice A n c ∧ Rd w M (bs m) ∧ m.length = nb ∧ nb ≤ 100000 ∧ nb ≤ cb ∧ Rd w A (cellsOf l) ∧ l.length = n ∧ n ≤ 100000 ∧ l.map MarkR.mv = P ∧ (∀ x ∈ l, MarkIn w x ∧ x.l.length ≤ 100000 ∧ x.p.length ≤ 100000) ∧ (∀ ad, M = some ad → lo ≤ ad.block ∧ ad.block < hi) ∧ (∀ ad, A = some ad → lo ≤ ad.block ∧ ad.block < hi) ∧ ∀ x ∈ l, (∀ ad, x.A = some ad → lo ≤ ad.block ∧ ad.block < hi) ∧ ∀ ad, x.B = some ad → lo ≤ ad.block ∧ ad.block < hi
theorem EvX.chg {w w' : World} {lo hi : Nat} {m : List UInt8} {P : List MkV} {v0 v1 : Value} {S : Nat → Prop} (h : EvX w lo hi m P v0 v1) (c : Chg S w w') (hs : ∀ y, lo ≤ y → y < hi → ¬ S y) : EvX w' lo hi m P v0 v1 := by
 obtain ⟨M, nb, cb, A, n, c1, l, e0, e1, h1, h2, h3, h3', h4, h5, h6, h7, h8, g1, g2, g3⟩ := h
 exact ⟨M, nb, cb, A, n, c1, l, e0, e1, h1.chg c (fun _ ad e => hs _ (g1 ad e).1 (g1 ad e).2), h2, h3, h3', h4.chg c (fun _ ad e => hs _ (g2 ad e).1 (g2 ad e).2), h5, h6, h7, fun x hx => ⟨⟨(h8 x hx).1.1.chg c (fun _ ad e => hs _ ((g3 x hx).1 ad e).1 ((g3 x hx).1 ad e).2), (h8 x hx).1.2.chg c (fun _ ad e => hs _ ((g3 x hx).2 ad e).1 ((g3 x hx).2 ad e).2)⟩, (h8 x hx).2⟩, g1, g2, g3⟩
theorem EvX.v {w : World} {lo hi : Nat} {m : List UInt8} {P : List MkV} {v0 v1 : Value} (h : EvX w lo hi m P v0 v1) : EvV w m P v0 v1 := by
 obtain ⟨M, nb, cb, A, n, c1, l, e0, e1, h1, h2, h3, h3', h4, h5, h6, h7, h8, _⟩ := h
 exact ⟨M, nb, cb, A, n, c1, l, e0, e1, h1, h2, h3, h4, h5, h6, h7, h8⟩
/-- an envelope whose rows lie in these blocks -/
def EvS (O : Nat → Prop) (w : World) (m : List UInt8) (P : List MkV) (v0 v1 : Value) : Prop := ∃ (M : Option Addr) (nb cb : Nat) (A : Option Addr) (n c : Nat) (l : List MarkR), v0 = .slice M nb cb ∧ v1 = .slice A n c ∧ Rd w M (bs m) ∧ m.length = nb ∧ nb ≤ 100000 ∧ nb ≤ cb ∧ Rd w A (cellsOf l) ∧ l.length = n ∧ n ≤ 100000 ∧ l.map MarkR.mv = P ∧ (∀ x ∈ l, MarkIn w x ∧ x.l.length ≤ 100000 ∧ x.p.length ≤ 100000) ∧ (∀ ad, M = some ad → O ad.block) ∧ (∀ ad, A = some ad → O ad.block) ∧ ∀ x ∈ l, (∀ ad, x.A = some ad → O ad.block) ∧ ∀ ad, x.B = some ad → O ad.block
theorem EvS.chg {w w' : World} {O : Nat → Prop} {m : List UInt8} {P : List MkV} {v0 v1 : Value} {S : Nat → Prop} (h : EvS O w m P v0 v1) (c : Chg S w w') (hs : ∀ y, O y → ¬ S y) : EvS O w' m P v0 v1 := by
 obtain ⟨M, nb, cb, A, n, c1, l, e0, e1, h1, h2, h3, h3', h4, h5, h6, h7, h8, g1, g2, g3⟩ := h
 exact ⟨M, nb, cb, A, n, c1, l, e0, e1, h1.chg c (fun _ ad e => hs _ (g1 ad e)), h2, h3, h3', h4.chg c (fun _ ad e => hs _ (g2 ad e)), h5, h6, h7, fun x hx => ⟨⟨(h8 x hx).1.1.chg c (fun _ ad e => hs _ ((g3 x hx).1 ad e)), (h8 x hx).1.2.chg c (fun _ ad e => hs _ ((g3 x hx).2 ad e))⟩, (h8 x hx).2⟩, g1, g2, g3⟩
theorem EvS.mono {w : World} {O O' : Nat → Prop} {m : List UInt8} {P : List MkV} {v0 v1 : Value} (h : EvS O w m P v0 v1) (ho : ∀ y, O y → O' y) : EvS O' w m P v0 v1 := by
 obtain ⟨M, nb, cb, A, n, c1, l, e0, e1, h1, h2, h3, h3', h4, h5, h6, h7, h8, g1, g2, g3⟩ := h
 exact ⟨M, nb, cb, A, n, c1, l, e0, e1, h1, h2, h3, h3', h4, h5, h6, h7, h8, fun ad e => ho _ (g1 ad e), fun ad e => ho _ (g2 ad e), fun x hx => ⟨fun ad e => ho _ ((g3 x hx).1 ad e), fun ad e => ho _ ((g3 x hx).2 ad e)⟩⟩
theorem EvS.x {w : World} {O : Nat → Prop} {lo hi : Nat} {m : List UInt8} {P : List MkV} {v0 v1 : Value} (h : EvS O w m P v0 v1) (ho : ∀ y, O y → lo ≤ y ∧ y < hi) : EvX w lo hi m P v0 v1 := by
 obtain ⟨M, nb, cb, A, n, c1, l, e0, e1, h1, h2, h3, h3', h4, h5, h6, h7, h8, g1, g2, g3⟩ := h
 exact ⟨M, nb, cb, A, n, c1, l, e0, e1, h1, h2, h3, h3', h4, h5, h6, h7, h8, fun ad e => ho _ (g1 ad e), fun ad e => ho _ (g2 ad e), fun x hx => ⟨fun ad e => ho _ ((g3 x hx).1 ad e), fun ad e => ho _ ((g3 x hx).2 ad e)⟩⟩
theorem EvX.s {w : World} {O : Nat → Prop} {lo hi : Nat} {m : List UInt8} {P : List MkV} {v0 v1 : Value} (h : EvX w lo hi m P v0 v1) (ho : ∀ y, lo ≤ y → y < hi → O y) : EvS O w m P v0 v1 := by
 obtain ⟨M, nb, cb, A, n, c1, l, e0, e1, h1, h2, h3, h3', h4, h5, h6, h7, h8, g1, g2, g3⟩ := h
 exact ⟨M, nb, cb, A, n, c1, l, e0, e1, h1, h2, h3, h3', h4, h5, h6, h7, h8, fun ad e => ho _ (g1 ad e).1 (g1 ad e).2, fun ad e => ho _ (g2 ad e).1 (g2 ad e).2, fun x hx => ⟨fun ad e => ho _ ((g3 x hx).1 ad e).1 ((g3 x hx).1 ad e).2, fun ad e => ho _ ((g3 x hx).2 ad e).1 ((g3 x hx).2 ad e).2⟩⟩
theorem EvS.v {w : World} {O : Nat → Prop} {m : List UInt8} {P : List MkV} {v0 v1 : Value} (h : EvS O w m P v0 v1) : EvV w m P v0 v1 := by
 obtain ⟨M, nb, cb, A, n, c1, l, e0, e1, h1, h2, h3, h3', h4, h5, h6, h7, h8, _⟩ := h
 exact ⟨M, nb, cb, A, n, c1, l, e0, e1, h1, h2, h3, h4, h5, h6, h7, h8⟩
/-- the blocks of what is sealed: the body's, and new ones -/
def slO (A : Option Addr) (w w' : World) : Nat → Prop := fun y => rowOf A y ∨ (w.heap.size ≤ y ∧ y < w'.heap.size)
/-- the mark that a key's leaf makes -/
def mkP (pub seed : H32) (used : Int) (m : List UInt8) : List MkV := [(pub, used, signS seed used m, pathA (leavesS seed) used)]
set_option maxRecDepth 100000 in
set_option maxHeartbeats 3200000 in
theorem sealS_calls {zs zk : Nat} {pub seed : H32} {used : Int} {A : Option Addr} {n c : Nat} {m : List UInt8} {w : World} [hs : HB w zs 78 (slL pub (.func (.func 26) #[.pointer (some ⟨zk, 0, none⟩)] #[]) 0).toArray] [hk : KeyAt w zk seed used] [hr : HR w A (bs m)] (hm : m.length = n) (hc : n ≤ c) (hn : n ≤ 100000) (h0 : 0 ≤ used) (h16 : used < 16) (hne : zk ≠ zs) (hA : ∀ ad, A = some ad → ad.block ≠ zk ∧ ad.block ≠ zs) :
    Calls Tryz.prog 27 #[.pointer (some ⟨zs, 0, none⟩), .slice A n c, .int .i64 0] w fun e w' => ∃ v1, e = .returned (.agg #[.slice A n c, v1]) ∧ Step (two zk zs) w w' ∧ KeyAt w' zk seed (used + 1) ∧ HB w' zs 78 (slL pub (.func (.func 26) #[.pointer (some ⟨zk, 0, none⟩)] #[]) 0).toArray ∧ Hid (EvS (slO A w w') w' m (mkP pub seed used m) (.slice A n c) v1) := by
 go_enter Tryz.func27, Tryz.ntmps27
 go_wp2_with (first | ((with_reducible apply (stop_dst (dst := some 14))); (try simp only [Act.put, sA, sB, sC]); ((with_reducible apply (wpl_bslice (dst := some 14))); exact run_err2 _ _ _; intro zb wb _ _ _)) | ((with_reducible apply (wpl_loadcellN (k := 33))); exact rfl; infer_instance; exact sl_33 _ _ _) | ((with_reducible apply (wpl_alloc (dst := some 6))); intro zo wzo _ _ _))
 refine orErr0_calls.mono ?_
 rintro e w5 ⟨rfl, rfl⟩
 have hzsl := hs.out.lt
 have hzkl := hk.lt
 have hzo : w.heap.size ≤ zo := Nat.le_of_eq (inferInstance : Born w zo).eq.symm
 have ozs : OffB (only zs) zk := ⟨hne⟩
 have ozk : OffB (only zk) zs := ⟨fun e => hne (show zs = zk from e).symm⟩
 have oso : OffB (only zs) zo := ⟨fun e => by have e' : zo = zs := e; omega⟩
 have oko : OffB (only zk) zo := ⟨fun e => by have e' : zo = zk := e; omega⟩
 have ook : OffB (only zo) zk := ⟨fun e => by have e' : zk = zo := e; omega⟩
 have oos : OffB (only zo) zs := ⟨fun e => by have e' : zs = zo := e; omega⟩
 have oAs : OffR (only zs) A (bs m) := ⟨fun _ ad e h => (hA ad e).2 h⟩
 have oAk : OffR (only zk) A (bs m) := ⟨fun _ ad e h => (hA ad e).1 h⟩
 have oAo : OffR (only zo) A (bs m) := ⟨fun hne2 ad e h => by have h' : ad.block = zo := h; have := rd_lt hr.out hne2 e; omega⟩
 have hs5 : HB w5 zs 78 (slL pub (.func (.func 26) #[.pointer (some ⟨zk, 0, none⟩)] #[]) 0).toArray := inferInstance
 have hlt33 : 33 < (slL pub (.func (.func 26) #[.pointer (some ⟨zk, 0, none⟩)] #[]) 0).toArray.size := by rw [slL_len]; decide
 go_wp2_with (first | ((with_reducible apply (wpl_loadcellN (k := 33))); exact rfl; infer_instance; exact sl_33 _ _ _) | ((with_reducible apply (wpl_storecell (k := 33))); exact rfl; exact rfl; exact hs5; exact rfl; exact hlt33; intro wx stx hwx; have hsx : HB wx zs 78 (slL pub (.func (.func 26) #[.pointer (some ⟨zk, 0, none⟩)] #[]) 0).toArray := HB.row_eqS hwx (sl_set _ _ _ _); clear hwx) | ((with_reducible apply (wpl_loadcellN (k := 32))); exact rfl; exact hsx; exact sl_32 _ _ _))
 have hrx : HR wx A (bs m) := inferInstance
 have hox : HB wx zo 32 #[.slice none 0 0, .slice none 0 0] := inferInstance
 have hkx : KeyAt wx zk seed used := inferInstance
 have hCx : Hid (Chg (only zs) w wx) := Lib.hid (((stepN (w0 := w) (w := w5)).chg.mono (T := only zs) (fun _ _ h => h.elim)).trans stx.chg (fun _ _ h => h))
 have hsx9 : w.heap.size ≤ wx.heap.size := hCx.out.size
 refine (ksign_calls (zk := zk) (seed := seed) (used := used) hm hc hn h0 h16).mono ?_
 obtain ⟨S, hS⟩ : ∃ S, S = signS seed used m := ⟨_, rfl⟩
 obtain ⟨PT, hPT⟩ : ∃ PT, PT = pathA (leavesS seed) used := ⟨_, rfl⟩
 have hSl : S.length = 36 := by rw [hS]; simp [signS, mapH]
 have hPl : PT.length ≤ 16 := by rw [hPT]; exact Nat.le_trans (pathA_len _ _) (by rw [leavesS_len]; exact Nat.le_refl _)
 rw [← hS, ← hPT]
 have HSG := Lib.hid hS
 have HPG := Lib.hid hPT
 clear hS hPT
 rintro e w6 ⟨z, A', c', rfl, st6, hk6, nz, nA, hz6, hA6⟩
 have hs6 : HB w6 zs 78 (slL pub (.func (.func 26) #[.pointer (some ⟨zk, 0, none⟩)] #[]) 0).toArray := inferInstance
 have ho6 : HB w6 zo 32 #[.slice none 0 0, .slice none 0 0] := inferInstance
 have hr6 : HR w6 A (bs m) := inferInstance
 have hzz : wx.heap.size ≤ z := nz.out ⟨z, 0, none⟩ rfl
 have hzol := hox.out.lt
 have hsg := st6.chg.size
 have hCx6 : Hid (Chg (two zk zs) w w6) := Lib.hid ((hCx.out.mono (T := two zk zs) (fun _ _ h => .inr h)).trans st6.chg (fun _ _ h => .inl h))
 have osz : OffA (only zs) (some ⟨z, 0, none⟩) := ⟨fun ad e h => by injection e with e; subst e; have h' : z = zs := h; omega⟩
 have osA : OffA (only zs) A' := ⟨fun ad e h => by have h' : ad.block = zs := h; have := nA.out ad e; omega⟩
 have ooz : OffA (only zo) (some ⟨z, 0, none⟩) := ⟨fun ad e h => by injection e with e; subst e; have h' : z = zo := h; omega⟩
 have ooA : OffA (only zo) A' := ⟨fun ad e h => by have h' : ad.block = zo := h; have := nA.out ad e; omega⟩
 obtain ⟨r, hr0⟩ : ∃ r : MarkR, r = ⟨pub, used, some ⟨z, 0, none⟩, 36, S, A', c', PT⟩ := ⟨_, rfl⟩
 have kbM : ∀ w, (Instr.build 133 #[(0, .agg (u8s pub.l)), (1, .agg #[.int .i64 used, .slice (some ⟨z, 0, none⟩) 36 36, .slice A' PT.length c'])]).run Tryz.prog w = .ok (.agg (RowC.enc r).toArray) w := fun w => by
  have h := run_mark r w
  rw [hr0] at h ⊢
  rw [show (⟨pub, used, some ⟨z, 0, none⟩, 36, S, A', c', PT⟩ : MarkR).l.length = 36 from hSl] at h
  exact h
 have kbs1 := run_oneM r
 have HR0 := Lib.hid hr0
 clear hsx hrx hox hkx hCx hs5 hr0
 go_wp2_with (first | ((with_reducible apply (wpl_storecell (k := 33))); exact rfl; exact rfl; infer_instance; exact rfl; exact hlt33; intro wy sty hwy; have hsy : HB wy zs 78 (slL pub (.func (.func 26) #[.pointer (some ⟨zk, 0, none⟩)] #[]) 0).toArray := HB.row_eqS hwy (sl_set _ _ _ _); clear hwy) | ((with_reducible apply (wpl_alloc (dst := some 7))); intro zg wzg _ _ _) | ((with_reducible apply wpl_storerow); exact rfl; exact rfl; infer_instance; infer_instance; (first | (with_reducible assumption) | (with_reducible exact H32.size _) | kernel_rfl); (first | (with_reducible assumption) | (with_reducible exact H32.size _) | kernel_rfl); (first | (with_reducible exact u8s_one _) | (with_reducible assumption) | kernel_rfl); intro ws _ _))
 have hzg : w6.heap.size ≤ zg := Nat.le_of_eq (inferInstance : Born w6 zg).eq.symm
 have osg : OffB (only zs) zg := ⟨fun e => by have e' : zg = zs := e; omega⟩
 have oog : OffB (only zo) zg := ⟨fun e => by have e' : zg = zo := e; omega⟩
 have hgy : HB wy zg 126 #[.int .i64 used, .slice (some ⟨z, 0, none⟩) 36 36, .slice A' PT.length c'] := inferInstance
 have hoy : HB wy zo 32 #[.slice none 0 0, .slice none 0 0] := inferInstance
 have hry : HR wy A (bs m) := inferInstance
 have hky : KeyAt wy zk seed (used + 1) := inferInstance
 have hzy : HO wy 23 32 (some ⟨z, 0, none⟩) 36 36 (cellsOf S) := inferInstance
 have hAy : HO wy 23 32 A' PT.length c' (cellsOf PT) := inferInstance
 have abz : Above w6 (only zg) := ⟨fun x h => by have h' : x = zg := h; omega⟩
 have hc6 : Chg (only zs) w6 wy := (inferInstance : Ch (only zs) w6 wy).out
 have hCy : Hid (Chg (two zk zs) w wy) := Lib.hid (hCx6.out.trans hc6 (fun _ _ h => .inr h))
 have hszy := hc6.size
 clear hs6 ho6 hr6 hk6 hz6 hA6 hCx6 hc6 st6 sty stx
 refine wp_region_N ((only zo)) (by kernel_rfl) (fun wd _ _ => ?_)
 refine' tk 0 _ rfl (by kernel_rfl) (by kernel_rfl) (by kernel_rfl) (fun _ _ _ h => h) (yo (by rfl) fun w' _ => ?_) inferInstance ?_
 rotate_left
 · (go_simp; try with_reducible rfl)
 try simp only [Act.put, sA, sB, sC]
 refine' tk 1 _ rfl (by kernel_rfl) (by kernel_rfl) (by kernel_rfl) (fun _ _ _ h => h) (yo (by rfl) fun w' _ => ?_) inferInstance ?_
 rotate_left
 · (go_simp; try with_reducible rfl)
 try simp only [Act.put, sA, sB, sC]
 refine' tk 2 _ rfl (by kernel_rfl) (by kernel_rfl) (by kernel_rfl) (fun _ _ _ h => h) (yo (by rfl) fun w' _ => ?_) inferInstance ?_
 rotate_left
 · (go_simp; try with_reducible rfl)
 try simp only [Act.put, sA, sB, sC]
 refine' tk 3 _ rfl (by kernel_rfl) (by kernel_rfl) (by kernel_rfl) (fun _ _ _ h => h) (yo (by rfl) fun w' _ => ?_) inferInstance ?_
 rotate_left
 · (go_simp; try with_reducible rfl)
 try simp only [Act.put, sA, sB, sC]
 refine' tk 4 _ rfl (by kernel_rfl) (by kernel_rfl) (by kernel_rfl) (fun _ _ _ h => h) (yo (by rfl) fun w' _ => ?_) inferInstance ?_
 rotate_left
 · ((apply (ev_loadpart (k := 0) (n := 32))); exact rfl; infer_instance; infer_instance; (decide); exact sl_pub _ _ _; (rw [bs_length, H32.len]))
 try simp only [Act.put, sA, sB, sC]
 refine' tk 5 _ rfl (by kernel_rfl) (by kernel_rfl) (by kernel_rfl) (fun _ _ _ h => h) (yo (by rfl) fun w' _ => ?_) inferInstance ?_
 rotate_left
 · ((apply ev_loadrow); exact rfl; infer_instance; infer_instance; (first | (with_reducible assumption) | (with_reducible exact H32.size _) | kernel_rfl))
 try simp only [Act.put, sA, sB, sC]
 refine' tk 6 _ rfl (by kernel_rfl) (by kernel_rfl) (by kernel_rfl) (fun _ _ _ h => h) (yo (by rfl) fun w' _ => ?_) inferInstance ?_
 rotate_left
 · ((apply ev_build); exact kbM _)
 try simp only [Act.put, sA, sB, sC]
 refine goH (i := 7) (by kernel_rfl) rfl (fun K_ hK_ => ?_)
 rw [if_pos (by kernel_rfl)]
 refine wpr_of_list ?_
 (first | ((with_reducible apply wpl_build); exact kbM _) | ((with_reducible apply wpl_build); exact run_env2 _ _ _ _ _ _ _) | ((with_reducible apply (stop_dst (dst := some 44))); (try simp only [Act.put, sA, sB, sC]); ((with_reducible apply (wpl_bslice (dst := some 44))); exact kbs1 _; intro zm wb _ _ _)))
 refine wpList_nil ?_
 unfold onlyN
 refine hK_.out _ _ inferInstance (fun _ => ?_)
 clear hK_ K_
 try simp only [Act.put, sA, sB, sC]
 refine' tk 8 _ rfl (by kernel_rfl) (by kernel_rfl) (by kernel_rfl) (fun _ _ _ h => h) (yo (by rfl) fun w' _ => ?_) inferInstance ?_
 rotate_left
 · ((apply ev_build); exact run_env2 _ _ _ _ _ _ _)
 try simp only [Act.put, sA, sB, sC]
 refine goH (i := 9) (by kernel_rfl) rfl (fun K_ hK_ => ?_)
 rw [if_pos (by kernel_rfl)]
 refine wpr_of_list ?_
 (first | ((with_reducible apply wpl_build); exact kbM _) | ((with_reducible apply wpl_build); exact run_env2 _ _ _ _ _ _ _) | ((with_reducible apply (stop_dst (dst := some 44))); (try simp only [Act.put, sA, sB, sC]); ((with_reducible apply (wpl_bslice (dst := some 44))); exact kbs1 _; intro zm wb _ _ _)) | ((with_reducible apply wpl_storerow); exact rfl; exact rfl; infer_instance; infer_instance; (first | (with_reducible assumption) | (with_reducible exact H32.size _) | kernel_rfl); (first | (with_reducible assumption) | (with_reducible exact H32.size _) | kernel_rfl); (first | (with_reducible exact u8s_one _) | (with_reducible assumption) | kernel_rfl); intro ws _ _) | ((with_reducible apply wpl_storecell); exact rfl; exact rfl; infer_instance; exact rfl; (first | (with_reducible assumption) | omega | (focus (simp; done)) | (focus (simp; omega; done)) | decide); intro ws _ _) | ((with_reducible apply (wpl_storehash (t := 23))); exact rfl; exact rfl; infer_instance; infer_instance; (first | (with_reducible assumption) | omega | (focus (simp; done)) | (focus (simp; omega; done)) | decide); intro ws _ _) | ((with_reducible apply (wpl_storebyteH (t := 5))); exact rfl; exact rfl; infer_instance; (first | (with_reducible assumption) | omega); (first | (with_reducible assumption) | omega); (first | (constructor <;> omega) | exact xor_u8_in _ _); intro ws _ _) | ((with_reducible apply (wpl_storeint (t := 3))); exact rfl; exact rfl; infer_instance; (first | (with_reducible assumption) | omega); intro ws _ _) | ((with_reducible apply (wpl_storebyte (t := 5))); exact rfl; exact rfl; infer_instance; (first | (with_reducible assumption) | omega | (focus (simp; done)) | (focus (simp; omega; done)) | decide); (constructor <;> omega); intro ws _ _))
 refine wpList_nil ?_
 unfold onlyN
 refine hK_.out _ _ inferInstance (fun _ => ?_)
 clear hK_ K_
 try simp only [Act.put]
 refine wpAnyH_done (by kernel_rfl) ?_ _
 all_goals
  have szd : wy.heap.size ≤ wd.heap.size := (inferInstance : SzLe wy wd).out
  have hzm : wd.heap.size ≤ zm := Nat.le_of_eq (inferInstance : Born wd zm).eq.symm
  have hzoy := hoy.out.lt
  have oom : OffB (only zo) zm := ⟨fun e => by have e' : zm = zo := e; omega⟩
  have hmw : HB ws zm 133 (RowC.enc r).toArray := inferInstance
  have hkw : KeyAt ws zk seed (used + 1) := inferInstance
  have hsw : HB ws zs 78 (slL pub (.func (.func 26) #[.pointer (some ⟨zk, 0, none⟩)] #[]) 0).toArray := inferInstance
  have hrw : HR ws A (bs m) := inferInstance
  have hzw : HO ws 23 32 (some ⟨z, 0, none⟩) 36 36 (cellsOf S) := inferInstance
  have hAw : HO ws 23 32 A' PT.length c' (cellsOf PT) := inferInstance
  have hcw : Chg (only zo) wy ws := (inferInstance : Ch (only zo) wy ws).out
  have hCw : Chg (two zk zs) w ws := hCy.out.trans hcw (fun x hx h => by have h' : x = zo := h; omega)
  have hMk : MarkIn ws r ∧ r.l.length ≤ 100000 ∧ r.p.length ≤ 100000 := by
   rw [HR0.out]
   exact ⟨⟨hzw.out.rd, hAw.out.rd⟩, by show S.length ≤ _; omega, by show PT.length ≤ _; omega⟩
  have hmr : Rd ws (some ⟨zm, 0, none⟩) (cellsOf [r]) := by
   have h9 := hmw.rdL
   have e9 : cellsOf [r] = (RowC.enc r).toArray.toList := by simp [cellsOf]
   rw [e9]
   exact h9
  go_wp2_with fail
  have hmvP : [r].map MarkR.mv = mkP pub seed used m := by
   rw [HR0.out]
   unfold mkP
   rw [← HSG.out, ← HPG.out]
   rfl
  refine ret_row rfl rfl (n := 2) rfl rfl ⟨_, rfl, ⟨hCw⟩, hkw, hsw, Lib.hid ⟨A, n, c, some ⟨zm, 0, none⟩, 1, 1, [r], rfl, rfl, hrw.out, hm, hn, hc, hmr, rfl, by decide, hmvP, fun x hx => ?_, fun ad e => .inl ⟨ad, e, rfl⟩, fun ad e => ?_, fun x hx => ?_⟩⟩
  · rw [List.mem_singleton.1 hx]
    exact hMk
  · injection e with e
    subst e
    exact .inr ⟨by show w.heap.size ≤ zm; omega, hmw.out.lt⟩
  · rw [List.mem_singleton.1 hx, HR0.out]
    refine ⟨fun ad e => ?_, fun ad e => ?_⟩
    · have e' : some (⟨z, 0, none⟩ : Addr) = some ad := e
      injection e' with e'
      subst e'
      exact .inr ⟨by show w.heap.size ≤ z; omega, hzw.out.lt rfl⟩
    · have e' : A' = some ad := e
      exact .inr ⟨by have := nA.out ad e'; omega, hAw.out.lt e'⟩
set_option maxRecDepth 100000 in
theorem sealM_calls {zs zk : Nat} {pub seed : H32} {used : Int} {A : Option Addr} {n c : Nat} {m : List UInt8} {w : World} [hs : HB w zs 78 (slL pub (.func (.func 26) #[.pointer (some ⟨zk, 0, none⟩)] #[]) 0).toArray] [hk : KeyAt w zk seed used] [hr : HR w A (bs m)] (hm : m.length = n) (hc : n ≤ c) (hn : n ≤ 100000) (h0 : 0 ≤ used) (h16 : used < 16) (hne : zk ≠ zs) (hA : ∀ ad, A = some ad → ad.block ≠ zk ∧ ad.block ≠ zs) (lo : Nat) (hlo : lo ≤ w.heap.size) (hloA : ∀ ad, A = some ad → lo ≤ ad.block ∧ ad.block < w.heap.size) :
    Calls Tryz.prog 27 #[.pointer (some ⟨zs, 0, none⟩), .slice A n c, .int .i64 0] w fun e w' => ∃ v1, e = .returned (.agg #[.slice A n c, v1]) ∧ Step (two zk zs) w w' ∧ KeyAt w' zk seed (used + 1) ∧ HB w' zs 78 (slL pub (.func (.func 26) #[.pointer (some ⟨zk, 0, none⟩)] #[]) 0).toArray ∧ Hid (EvX w' lo w'.heap.size m (mkP pub seed used m) (.slice A n c) v1) := by
 refine (sealS_calls hm hc hn h0 h16 hne hA).mono ?_
 rintro e w' ⟨v1, h1, h2, h3, h4, h5⟩
 have hs := h2.chg.size
 exact ⟨v1, h1, h2, h3, h4, Lib.hid (h5.out.x (fun y h => by
  rcases h with ⟨ad, e, h⟩ | h
  · have := hloA ad e
    omega
  · omega))⟩
end Go.Proofs.YtgjnjhhhbkidbaaGreat
end
section
open Go Go.RowKit
namespace Go.Proofs.YtgjnjhhhbkidbaaGreat
theorem rp_head (sd : H32) (p0 p1 : Value) (f : H32) (g v : Int) (tl : List Value) : rpL sd p0 p1 f g v tl = (bs sd.l ++ [p0, p1] ++ bs f.l ++ [Value.int .i64 g, Value.int .i64 v]) ++ tl := by simp [rpL]
theorem rp_headl (sd : H32) (p0 p1 : Value) (f : H32) (g v : Int) : (bs sd.l ++ [p0, p1] ++ bs f.l ++ [Value.int .i64 g, Value.int .i64 v]).length = 68 := by simp [bs_length]
theorem rp_putn (sd : H32) (p0 p1 : Value) (f : H32) (g v : Int) (tl : List Value) (i n : Nat) (vs : List Value) : (rpL sd p0 p1 f g v tl).toArray.toList.take (68 + i) ++ vs ++ (rpL sd p0 p1 f g v tl).toArray.toList.drop (68 + i + n) = rpL sd p0 p1 f g v (tl.take i ++ vs ++ tl.drop (i + n)) := by
 have hl := rp_headl sd p0 p1 f g v
 show (rpL sd p0 p1 f g v tl).take (68 + i) ++ vs ++ (rpL sd p0 p1 f g v tl).drop (68 + i + n) = _
 rw [rp_head, rp_head]
 obtain ⟨H, hH⟩ : ∃ H, H = bs sd.l ++ [p0, p1] ++ bs f.l ++ [Value.int .i64 g, Value.int .i64 v] := ⟨_, rfl⟩
 rw [← hH] at hl ⊢
 rw [List.take_append, List.take_of_length_le (by omega), hl, Nat.add_sub_cancel_left, List.drop_append, List.drop_of_length_le (by omega), hl, show 68 + i + n - 68 = i + n by omega, List.nil_append]
 simp [List.append_assoc]
theorem rp_setn (sd : H32) (p0 p1 : Value) (f : H32) (g v : Int) (tl : List Value) (i : Nat) (y : Value) : (rpL sd p0 p1 f g v tl).toArray.setIfInBounds (68 + i) y = (rpL sd p0 p1 f g v (tl.set i y)).toArray := by
 have hl := rp_headl sd p0 p1 f g v
 rw [sA]
 congr 1
 rw [rp_head, rp_head, List.set_append_right _ _ (by rw [hl]; omega), hl, Nat.add_sub_cancel_left]
theorem rp_set67 (sd : H32) (p0 p1 : Value) (f : H32) (g v v2 : Int) (tl : List Value) : (rpL sd p0 p1 f g v tl).toArray.setIfInBounds 67 (.int .i64 v2) = (rpL sd p0 p1 f g v2 tl).toArray := by
 rw [sA]
 congr 1
 have e : ∀ x, rpL sd p0 p1 f g x tl = (bs sd.l ++ [p0, p1] ++ bs f.l ++ [Value.int .i64 g]) ++ (Value.int .i64 x :: tl) := fun x => by simp [rpL]
 have hl : (bs sd.l ++ [p0, p1] ++ bs f.l ++ [Value.int .i64 g]).length = 67 := by simp [bs_length]
 rw [e, e, List.set_append_right _ _ (by rw [hl]; exact Nat.le_refl _), hl]
 rfl
theorem rp_67 (sd : H32) (p0 p1 : Value) (f : H32) (g v : Int) (tl : List Value) : nth (rpL sd p0 p1 f g v tl).toArray.toList 67 = some (.int .i64 v) := by
 rw [← nth_get]
 show (rpL sd p0 p1 f g v tl)[67]? = _
 have e : rpL sd p0 p1 f g v tl = (bs sd.l ++ [p0, p1] ++ bs f.l ++ [Value.int .i64 g]) ++ (Value.int .i64 v :: tl) := by simp [rpL]
 have hl : (bs sd.l ++ [p0, p1] ++ bs f.l ++ [Value.int .i64 g]).length = 67 := by simp [bs_length]
 rw [e, List.getElem?_append_right (by rw [hl]; exact Nat.le_refl _), hl]
 rfl
theorem rp_33' (sd : H32) (p0 p1 : Value) (f : H32) (g v : Int) (tl : List Value) : nth (rpL sd p0 p1 f g v tl).toArray.toList 33 = some p1 := by
 rw [← nth_get]
 exact rp_get32 sd p0 p1 f g v tl 1
theorem rp_sz (sd : H32) (p0 p1 : Value) (f : H32) (g v : Int) (tl : List Value) (h : tl.length = 8) : (rpL sd p0 p1 f g v tl).toArray.size = 76 := rpL_len sd p0 p1 f g v tl h
theorem run_seal0 (pub : H32) (zk : Nat) (w : World) : (Instr.build 78 #[(0, .agg (u8s pub.l)), (1, .func (.func 26) #[.pointer (some ⟨zk, 0, none⟩)] #[])]).run Tryz.prog w = .ok (.agg (slL pub (.func (.func 26) #[.pointer (some ⟨zk, 0, none⟩)] #[]) 0).toArray) w := by
 refine run_build_struct Tryz.underlying78 (zv := .agg (slL zeroH .nilFunc 0).toArray) (fun _ => by kernel_rfl) (places := #[(0, 32), (32, 1), (33, 1)]) (fun _ => by kernel_rfl) ?_ w
 show Instr.fill _ (slL zeroH .nilFunc 0).toArray [(0, .agg (u8s pub.l)), (1, .func (.func 26) #[.pointer (some ⟨zk, 0, none⟩)] #[])] = _
 rw [fill_step _ _ 0 _ _ (off := 0) (size := 32) rfl (by show (u8s pub.l).size = 32; exact pub.size) (by rw [slL_len]; decide)]
 rw [show lay 0 (Value.agg (u8s pub.l)).cells (slL zeroH .nilFunc 0).toArray = (slL pub .nilFunc 0).toArray from lay_app 0 (u8s pub.l) [] (bs zeroH.l) _ rfl (by rw [bs_length, zeroH.len]; exact pub.size.symm)]
 rw [fill_step _ _ 1 _ _ (off := 32) (size := 1) rfl rfl (by rw [slL_len]; decide)]
 rw [show lay 32 (Value.func (.func 26) #[.pointer (some ⟨zk, 0, none⟩)] #[]).cells (slL pub .nilFunc 0).toArray = (slL pub (.func (.func 26) #[.pointer (some ⟨zk, 0, none⟩)] #[]) 0).toArray from lay_app 32 _ (bs pub.l) [_] _ (bsl pub) rfl]
 rfl
theorem run_pinV (v : Int) (w : World) : (Instr.build 68 #[(0, .string ⟨#[116, 111, 112]⟩), (1, .int .i64 v)]).run Tryz.prog w = .ok (.agg (RowC.enc (⟨mayL, v⟩ : PinR)).toArray) w := by kernel_rfl
theorem run_pinS (p : PinR) (w : World) : (Instr.buildSlice 57 1 #[(0, .agg (RowC.enc p).toArray)]).run Tryz.prog w = .ok (.slice (some ⟨w.heap.size, 0, none⟩) 1 1) (w.alloc (.cells (cellsOf [p]).toArray 68)) := by kernel_rfl
theorem run_snapV (v e : Int) (A : Option Addr) (n c : Nat) (w : World) : (Instr.build 59 #[(0, .int .i64 v), (1, .int .i64 e), (2, .slice A n c)]).run Tryz.prog w = .ok (.agg #[.int .i64 v, .int .i64 e, .slice A n c]) w := by kernel_rfl
theorem run_timV (v e s : Int) (h : H32) (w : World) : (Instr.build 54 #[(0, .int .i64 v), (1, .int .i64 e), (2, .int .i64 s), (3, .agg (u8s h.l))]).run Tryz.prog w = .ok (.agg (timL v e s h).toArray) w := by
 refine run_build_struct Tryz.underlying54 (zv := .agg (timL 0 0 0 zeroH).toArray) (fun _ => by kernel_rfl) (places := #[(0, 1), (1, 1), (2, 1), (3, 32)]) (fun _ => by kernel_rfl) ?_ w
 have hl : ∀ v e s h, (timL v e s h).toArray.size = 35 := fun v e s h => by show (timL v e s h).length = 35; simp [timL, bs_length]
 show Instr.fill _ (timL 0 0 0 zeroH).toArray [(0, .int .i64 v), (1, .int .i64 e), (2, .int .i64 s), (3, .agg (u8s h.l))] = _
 rw [fill_step _ _ 0 _ _ (off := 0) (size := 1) rfl rfl (by rw [hl]; decide)]
 rw [show lay 0 (Value.int .i64 v).cells (timL 0 0 0 zeroH).toArray = (timL v 0 0 zeroH).toArray from lay_app 0 #[.int .i64 v] [] [.int .i64 0] _ rfl rfl]
 rw [fill_step _ _ 1 _ _ (off := 1) (size := 1) rfl rfl (by rw [hl]; decide)]
 rw [show lay 1 (Value.int .i64 e).cells (timL v 0 0 zeroH).toArray = (timL v e 0 zeroH).toArray from lay_app 1 #[.int .i64 e] [.int .i64 v] [.int .i64 0] _ rfl rfl]
 rw [fill_step _ _ 2 _ _ (off := 2) (size := 1) rfl rfl (by rw [hl]; decide)]
 rw [show lay 2 (Value.int .i64 s).cells (timL v e 0 zeroH).toArray = (timL v e s zeroH).toArray from lay_app 2 #[.int .i64 s] [.int .i64 v, .int .i64 e] [.int .i64 0] _ rfl rfl]
 rw [fill_step _ _ 3 _ _ (off := 3) (size := 32) rfl (by show (u8s h.l).size = 32; exact h.size) (by rw [hl]; decide)]
 have hq := lay_app 3 (u8s h.l) [.int .i64 v, .int .i64 e, .int .i64 s] (bs zeroH.l) [] rfl (by rw [bs_length, zeroH.len]; exact h.size.symm)
 rw [List.append_nil, List.append_nil] at hq
 rw [show lay 3 (Value.agg (u8s h.l)).cells (timL v e s zeroH).toArray = (timL v e s h).toArray from hq]
 rfl
end Go.Proofs.YtgjnjhhhbkidbaaGreat
end
section
open Go Go.RowKit
namespace Go.Proofs.YtgjnjhhhbkidbaaGreat
instance zeroTSl : ZeroT Tryz.prog 78 (slL zeroH .nilFunc 0).toArray := ⟨.agg (slL zeroH .nilFunc 0).toArray, fun _ => by kernel_rfl, rfl⟩
theorem EvX.body {w : World} {lo hi : Nat} {m : List UInt8} {P : List MkV} {A : Option Addr} {n c : Nat} {v1 : Value} (h : EvX w lo hi m P (.slice A n c) v1) : Rd w A (bs m) ∧ m.length = n ∧ n ≤ c ∧ n ≤ 100000 := by
 obtain ⟨M, nb, cb, A, n, c1, l, e0, e1, h1, h2, h3, h3', _⟩ := h
 injection e0 with q1 q2 q3
 subst q1 q2 q3
 exact ⟨h1, h2, h3', h3⟩
theorem two_one (a b : Value) (h1 : a.oneCell' = true) (h2 : b.oneCell' = true) : (#[a, b] : Array Value).all (·.oneCell') = true := by
 rw [List.all_toArray, List.all_eq_true]
 intro u hu
 simp only [List.mem_cons, List.not_mem_nil, or_false] at hu
 rcases hu with rfl | rfl <;> assumption
theorem own_capR {w : World} {e : TypeId} {s n c : Nat} {A : Option Addr} {xs : List Value} (h : Own w e s A n c xs) : n ≤ c := by
 rcases h.form with ⟨_, h1, h2, _⟩ | ⟨_, _, _, _, h1, _⟩ <;> omega
theorem sl_one (pub : H32) (zk : Nat) (er : Int) : (slL pub (.func (.func 26) #[.pointer (some ⟨zk, 0, none⟩)] #[]) er).toArray.all (·.oneCell') = true := by
 rw [List.all_toArray, List.all_eq_true]
 intro u hu
 rcases List.mem_append.1 hu with h | h
 · exact bs_one pub.l u h
 · simp only [List.mem_cons, List.not_mem_nil, or_false] at h
   rcases h with rfl | rfl <;> rfl
def SgPost (sd f seed : H32) (p0 : Value) (g v : Int) (xr : Value) (C : Option Addr) (cn cc : Nat) (B : Option Addr) (d : Nat) (zr zk : Nat) (used : Int) (w w' : World) : Prop :=
 ∃ a b c d2 zE, ∃ (ev : EvC) (m1 m2 m3 : List UInt8) (P1 P2 P3 : List MkV), Step (two zk zr) w w' ∧ KeyAt w' zk seed (used + 3) ∧
     HB w' zr 73 (rpL sd p0 (.pointer (some ⟨zk, 0, none⟩)) f g (v + 1) [.slice B 0 d, xr, a, b, c, d2, .slice (some ⟨zE, 0, none⟩) 1 1, .slice C cn cc]).toArray ∧ Hid (EvV w' m1 P1 a b ∧ EvV w' m2 P2 c d2 ∧ EvV w' m3 P3 ev.v0 ev.v1) ∧ HR w' (some ⟨zE, 0, none⟩) (cellsOf [ev])
end Go.Proofs.YtgjnjhhhbkidbaaGreat
end
section
open Go Go.RowKit
namespace Go.Proofs.YtgjnjhhhbkidbaaGreat
def hR1 : H32 := ⟨1 :: List.replicate 31 0, by simp⟩
end Go.Proofs.YtgjnjhhhbkidbaaGreat
end
