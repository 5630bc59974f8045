/- RsI, RlK, RlN, RlP -/
import Derived.Test.YtgjnjhhhbkidbaaGreatUaRlG
import Derived.Test.YtgjnjhhhbkidbaaGreatUaRlD
import Derived.Test.YtgjnjhhhbkidbaaGreatUaRlJ
import Derived.Test.YtgjnjhhhbkidbaaGreatUaFwM
section
open Go Go.RowKit
namespace Go.Proofs.YtgjnjhhhbkidbaaGreat
def hR1 : H32 := ⟨1 :: List.replicate 31 0, by simp⟩
theorem run_hB1r (w : World) : (Instr.build 23 #[(0, .int .u8 1)]).run Tryz.prog w = .ok (.agg (u8s hR1.l)) w := by kernel_rfl
theorem okT : tgsOk mayL (0 + 1) (0 + 1) [] [] = true := by decide +kernel
theorem okS : snapOk (0 + 1) (0 + 1) [⟨mayL, 0 + 1⟩] = true := by decide +kernel
theorem okM : timB (0 + 1) (0 + 1) (0 + 1) = true := by decide +kernel
theorem okTl : (encAll [4] ++ tgsB mayL (0 + 1) (0 + 1) 0 0 [] []).length ≤ 100000 := by decide +kernel
theorem okSl : (snapE (0 + 1) (0 + 1) [⟨mayL, 0 + 1⟩]).length ≤ 100000 := by decide +kernel
theorem okMl (h : H32) : (encAll [2] ++ (encAll [(0 : Int) + 1, 0 + 1, 0 + 1] ++ h.l)).length ≤ 100000 := by
  rw [List.length_append, List.length_append, h.len]
  decide +kernel
set_option maxRecDepth 100000 in
set_option maxHeartbeats 3200000 in
theorem rpKnown_calls (w : World) : Calls Tryz.prog 12 #[] w fun e w' => e = .returned (.bool true) ∧ Step nowhere w w' := by
  go_enter Tryz.func12, Tryz.ntmps12
  go_wp2_with (first | ((with_reducible apply wpl_build); (exact run_hB1r _)))
  refine (repoNew_calls hR1 _).mono ?_
  rintro e w1 ⟨zr, z0, z1, rfl, st1, hn, hr, hk0, hk1⟩
  have ab0 : Above w (only z0) := ⟨fun x h => by have h' : x = z0 := h; have := hn.out.2.1; omega⟩
  have ab1 : Above w (two z1 zr) := ⟨fun x h => by have := hn.out.1; have := hn.out.2.2.1; rcases h with h | h <;> omega⟩
  have o0r : OffB (only z0) zr := ⟨fun e => hn.out.2.2.2.1 (show zr = z0 from e).symm⟩
  have o01 : OffB (only z0) z1 := ⟨fun e => hn.out.2.2.2.2.2 (show z1 = z0 from e).symm⟩
  go_wp2_with fail
  refine (rootR_calls (zk := z0) (zr := zr) (seed := kSeed hR1 0) (used := 0) (w := w1) hn.out.2.2.2.1).mono ?_
  rintro e w2 ⟨K, rfl, hK, st2, hk02⟩
  have hb2 : HB w2 zr 73 (rpL hR1 (.pointer (some ⟨z0, 0, none⟩)) (.pointer (some ⟨z1, 0, none⟩)) (pubS (kSeed hR1 1)) 1 0 rpTl).toArray := inferInstance
  have hk2 : KeyAt w2 z1 (kSeed hR1 1) 0 := inferInstance
  have hsK := rtL_len 1 1073741824 K hK
  have hf0 : ∀ w, (Instr.field 94 (.agg (rtL 1 1073741824 K).toArray) 0).run Tryz.prog w = .ok (.int .i64 1) w := fun _ => by kernel_rfl
  have hf3 : ∀ a b c d A' n c' w, (Instr.field 34 (.agg #[.slice none 0 0, a, b, c, d, .slice A' n c']) 3).run Tryz.prog w = .ok (.slice A' n c') w := fun _ _ _ _ _ _ _ _ => by kernel_rfl
  go_wp2_with fail
  have hbB : HB w2 zr 73 (rpL hR1 (.pointer (some ⟨z0, 0, none⟩)) (.pointer (some ⟨z1, 0, none⟩)) (pubS (kSeed hR1 1)) 1 0 (.slice none 0 0 :: [.slice none 0 0, .slice none 0 0, .slice none 0 0, .slice none 0 0, .slice none 0 0, .slice none 0 0, .slice none 0 0])).toArray := hb2
  refine (bundle0_calls (w := w2) (evV_nil _) (evV_nil _)).mono ?_
  rintro e w3 ⟨a, b, c, d, A1, c1, rfl, st3⟩
  go_wp2_with fail
  have hb3 : HB w3 zr 73 (rpL hR1 (.pointer (some ⟨z0, 0, none⟩)) (.pointer (some ⟨z1, 0, none⟩)) (pubS (kSeed hR1 1)) 1 0 [.slice none 0 0, .slice none 0 0, .slice none 0 0, .slice none 0 0, .slice none 0 0, .slice none 0 0, .slice none 0 0, .slice none 0 0]).toArray := inferInstance
  have hk3 : KeyAt w3 z1 (kSeed hR1 1) 0 := inferInstance
  have qc := sign0_calls (sd := hR1) (f := pubS (kSeed hR1 1)) (seed := kSeed hR1 1) (zr := zr) (zk := z1) (used := 0) (v := 0) (now := 0) (life := 1) (w := w3) hn.out.2.2.2.2.1 (by omega) (by omega) (Nat.le_refl 0) (by omega) (by omega) (by omega) (by omega) (by omega) okT okS okM okTl okSl okMl
  refine qc.mono ?_
  rintro e w4 ⟨rfl, hS4⟩
  obtain ⟨a2, b2, c2, d2, zE, ev, m1, m2, m3, P1, P2, P3, st4, hk4, hb4, hE, hr4⟩ := hS4
  go_wp2_with fail
  have hb4' : HB w4 zr 73 (rpL hR1 (.pointer (some ⟨z0, 0, none⟩)) (.pointer (some ⟨z1, 0, none⟩)) (pubS (kSeed hR1 1)) 1 (0 + 1) (.slice none 0 0 :: [.slice none 0 0, a2, b2, c2, d2, .slice (some ⟨zE, 0, none⟩) 1 1, .slice none 0 0])).toArray := hb4
  refine (bundle1_calls (w := w4) hE.out.1 hE.out.2.1 hE.out.2.2).mono ?_
  rintro e w5 ⟨a3, b3, c3, d3, A3, n3, rfl, st5⟩
  go_wp2_with fail
  go_ret
  exact ⟨rfl, stepN⟩
end Go.Proofs.YtgjnjhhhbkidbaaGreat
end
section
open Go Go.RowKit
namespace Go.Proofs.YtgjnjhhhbkidbaaGreat
noncomputable def plc (T : List TargetR) (x : TargetR) : Nat := open Classical in if h : ∃ k, PlcR T x k then Classical.choose h else 0
theorem plc_eq {T : List TargetR} {x : TargetR} {k : Nat} (h : PlcR T x k) : k = plc T x := by
  have he : ∃ k, PlcR T x k := ⟨k, h⟩
  unfold plc
  rw [dif_pos he]
  exact plc_unique h (Classical.choose_spec he)
theorem plc_is {T : List TargetR} {x : TargetR} (h : RiseR T) : PlcR T x (plc T x) := by
  obtain ⟨k, hk⟩ := plc_exists h x
  rw [← plc_eq hk]
  exact hk
structure RpS where
  sd : H32
  f : H32
  g : Int
  v : Int
  z0 : Nat
  z1 : Nat
  u0 : Int
  u1 : Int
  B : Option Addr
  d : Nat
  T : List TargetR
  C : Option Addr
  cc : Nat
  D : List TargetR
  X : Option Addr
  xc : Nat
  xl : List EvC
  LX : List EvM
  t0 : Value
  t1 : Value
  mt : EvM
  s0 : Value
  s1 : Value
  ms : EvM
  G : Option Addr
  gc : Nat
  gl : List EvC
  LG : List EvM
  O : Nat → Prop
def RpS.tl (s : RpS) : List Value := [.slice s.B s.T.length s.d, .slice s.X s.xl.length s.xc, s.t0, s.t1, s.s0, s.s1, .slice s.G s.gl.length s.gc, .slice s.C s.D.length s.cc]
/-- the blocks that it writes -/
def rpO (zr : Nat) (s : RpS) : Nat → Prop := fun x => x = zr ∨ x = s.z0 ∨ x = s.z1 ∨ rowOf s.B x ∨ rowOf s.C x ∨ rowOf s.X x
structure RpAt (w : World) (zr : Nat) (s : RpS) : Prop where
  hb : HB w zr 73 (rpL s.sd (.pointer (some ⟨s.z0, 0, none⟩)) (.pointer (some ⟨s.z1, 0, none⟩)) s.f s.g s.v s.tl).toArray
  k0 : KeyAt w s.z0 (kSeed s.sd 0) s.u0
  k1 : KeyAt w s.z1 (kSeed s.sd s.g) s.u1
  hB : HO w 42 37 s.B s.T.length s.d (cellsOf s.T)
  hC : HO w 42 37 s.C s.D.length s.cc (cellsOf s.D)
  hX : HO w 32 2 s.X s.xl.length s.xc (cellsOf s.xl)
  hG : Rd w s.G (cellsOf s.gl)
  ap : s.z0 ≠ zr ∧ s.z1 ≠ zr ∧ s.z0 ≠ s.z1
  aB : ∀ a, s.B = some a → a.block ≠ zr ∧ a.block ≠ s.z0 ∧ a.block ≠ s.z1
  aC : ∀ a, s.C = some a → a.block ≠ zr ∧ a.block ≠ s.z0 ∧ a.block ≠ s.z1
  aX : ∀ a, s.X = some a → a.block ≠ zr ∧ a.block ≠ s.z0 ∧ a.block ≠ s.z1
  aBC : ∀ a b, s.B = some a → s.C = some b → a.block ≠ b.block
  aBX : ∀ a b, s.B = some a → s.X = some b → a.block ≠ b.block
  aCX : ∀ a b, s.C = some a → s.X = some b → a.block ≠ b.block
  oLt : ∀ y, s.O y → y < w.heap.size
  oM : ∀ y, s.O y → ¬ rpO zr s y
  gO : ∀ a, s.G = some a → s.O a.block
  et : EvS s.O w s.mt.1 s.mt.2 s.t0 s.t1
  es : EvS s.O w s.ms.1 s.ms.2 s.s0 s.s1
  eX : EvL s.O w s.xl s.LX
  eG : EvL s.O w s.gl s.LG
/-- nothing of it is touched -/
theorem RpAt.chg {w w' : World} {zr : Nat} {s : RpS} {S : Nat → Prop} (R : RpAt w zr s) (c : Chg S w w') (hs : ∀ y, S y → ¬ rpO zr s y ∧ ¬ s.O y) : RpAt w' zr s := by
  have st : Step S w w' := ⟨c⟩
  have i1 := R.hb
  have i2 := R.k0
  have i3 := R.k1
  have i4 := R.hB
  have i5 := R.hC
  have i6 := R.hX
  have o1 : OffB S zr := ⟨fun h => (hs _ h).1 (.inl rfl)⟩
  have o2 : OffB S s.z0 := ⟨fun h => (hs _ h).1 (.inr (.inl rfl))⟩
  have o3 : OffB S s.z1 := ⟨fun h => (hs _ h).1 (.inr (.inr (.inl rfl)))⟩
  have o4 : OffA S s.B := ⟨fun ad e h => (hs _ h).1 (.inr (.inr (.inr (.inl ⟨ad, e, rfl⟩))))⟩
  have o5 : OffA S s.C := ⟨fun ad e h => (hs _ h).1 (.inr (.inr (.inr (.inr (.inl ⟨ad, e, rfl⟩)))))⟩
  have o6 : OffA S s.X := ⟨fun ad e h => (hs _ h).1 (.inr (.inr (.inr (.inr (.inr ⟨ad, e, rfl⟩)))))⟩
  have hO : ∀ y, s.O y → ¬ S y := fun y h1 h2 => (hs y h2).2 h1
  exact ⟨inferInstance, inferInstance, inferInstance, inferInstance, inferInstance, inferInstance, R.hG.chg c (fun _ ad e h => (hs _ h).2 (R.gO ad e)), R.ap, R.aB, R.aC, R.aX, R.aBC, R.aBX, R.aCX, fun y h => Nat.lt_of_lt_of_le (R.oLt y h) c.size, R.oM, R.gO, R.et.chg c hO, R.es.chg c hO, R.eX.chg c hO, R.eG.chg c hO⟩
theorem RpAt.nw {w w' : World} {zr : Nat} {s : RpS} (R : RpAt w zr s) (c : Chg nowhere w w') : RpAt w' zr s := R.chg c (fun _ h => h.elim)
/-- from one state to the next -/
structure RpNext (w w' : World) (zr : Nat) (s s' : RpS) : Prop where
  st : Chg (rpO zr s) w w'
  at' : RpAt w' zr s'
  fr : ∀ x, rpO zr s' x ∨ s'.O x → (rpO zr s x ∨ s.O x) ∨ w.heap.size ≤ x
theorem grown_off {A A' : Option Addr} {w : World} (h : ∀ ad, A' = some ad → A' = A ∨ w.heap.size ≤ ad.block) (z : Nat) (hz : z < w.heap.size) (ha : ∀ ad, A = some ad → ad.block ≠ z) : ∀ ad, A' = some ad → ad.block ≠ z := fun ad e => by
  rcases h ad e with h1 | h1
  · rw [h1] at e
    exact ha ad e
  · omega
theorem gzr_sub {zr : Nat} {s : RpS} : ∀ x, gzr zr s.B x → rpO zr s x := fun x h => by
  rcases h with h | h
  · exact .inl h
  · exact .inr (.inr (.inr (.inl h)))
/-- the targets' row moved at most -/
theorem RpAt.setT {w w' : World} {zr : Nat} {s : RpS} (R : RpAt w zr s) (c : Chg (gzr zr s.B) w w') {B' : Option Addr} {d' : Nat} {T' : List TargetR} (hb : HB w' zr 73 (rpL s.sd (.pointer (some ⟨s.z0, 0, none⟩)) (.pointer (some ⟨s.z1, 0, none⟩)) s.f s.g s.v [.slice B' T'.length d', .slice s.X s.xl.length s.xc, s.t0, s.t1, s.s0, s.s1, .slice s.G s.gl.length s.gc, .slice s.C s.D.length s.cc]).toArray) (hB : HO w' 42 37 B' T'.length d' (cellsOf T')) (hn : ∀ ad, B' = some ad → B' = s.B ∨ w.heap.size ≤ ad.block) : RpNext w w' zr s { s with B := B', d := d', T := T' } := by
  have st : Step (gzr zr s.B) w w' := ⟨c⟩
  have hs := gzr_sub (zr := zr) (s := s)
  have i2 := R.k0
  have i3 := R.k1
  have i5 := R.hC
  have i6 := R.hX
  have o2 : OffB (gzr zr s.B) s.z0 := ⟨fun h => by
    rcases h with h | ⟨ad, e, h⟩
    · exact R.ap.1 h
    · exact (R.aB ad e).2.1 h⟩
  have o3 : OffB (gzr zr s.B) s.z1 := ⟨fun h => by
    rcases h with h | ⟨ad, e, h⟩
    · exact R.ap.2.1 h
    · exact (R.aB ad e).2.2 h⟩
  have o5 : OffA (gzr zr s.B) s.C := ⟨fun bd e2 h => by
    rcases h with h | ⟨ad, e, h⟩
    · exact (R.aC bd e2).1 h
    · exact R.aBC ad bd e e2 h⟩
  have o6 : OffA (gzr zr s.B) s.X := ⟨fun bd e2 h => by
    rcases h with h | ⟨ad, e, h⟩
    · exact (R.aX bd e2).1 h
    · exact R.aBX ad bd e e2 h⟩
  have hO : ∀ y, s.O y → ¬ gzr zr s.B y := fun y h1 h2 => R.oM y h1 (hs y h2)
  have lr := R.hb.out.lt
  have l0 := R.k0.lt
  have l1 := R.k1.lt
  have fr : ∀ x, rpO zr { s with B := B', d := d', T := T' } x → rpO zr s x ∨ w.heap.size ≤ x := fun x h => by
    rcases h with h | h | h | ⟨ad, e, h⟩ | h | h
    · exact .inl (.inl h)
    · exact .inl (.inr (.inl h))
    · exact .inl (.inr (.inr (.inl h)))
    · rcases hn ad e with h1 | h1
      · have e' : B' = some ad := e
        rw [h1] at e'
        exact .inl (.inr (.inr (.inr (.inl ⟨ad, e', h⟩))))
      · right
        omega
    · exact .inl (.inr (.inr (.inr (.inr (.inl h)))))
    · exact .inl (.inr (.inr (.inr (.inr (.inr h)))))
  refine ⟨c.mono (fun x _ h => hs x h), ⟨hb, inferInstance, inferInstance, hB, inferInstance, inferInstance, R.hG.chg c (fun _ ad e => hO _ (R.gO ad e)), R.ap, fun ad e => ⟨grown_off hn zr lr (fun a h => (R.aB a h).1) ad e, grown_off hn s.z0 l0 (fun a h => (R.aB a h).2.1) ad e, grown_off hn s.z1 l1 (fun a h => (R.aB a h).2.2) ad e⟩, R.aC, R.aX, fun ad bd e e2 => grown_off hn bd.block (R.hC.out.lt e2) (fun a h => R.aBC a bd h e2) ad e, fun ad bd e e2 => grown_off hn bd.block (R.hX.out.lt e2) (fun a h => R.aBX a bd h e2) ad e, R.aCX, fun y h => Nat.lt_of_lt_of_le (R.oLt y h) c.size, fun y h1 h2 => ?_, R.gO, R.et.chg c hO, R.es.chg c hO, R.eX.chg c hO, R.eG.chg c hO⟩, fun x h => ?_⟩
  · rcases fr y h2 with h3 | h3
    · exact R.oM y h1 h3
    · have := R.oLt y h1
      omega
  · rcases h with h | h
    · exact (fr x h).imp (fun h => .inl h) (fun h => h)
    · exact .inl (.inr h)
noncomputable def pubE (T : List TargetR) (t : TargetR) : Int := (pubR T t (plc T (keyT t.l t.ecu))).1
noncomputable def pubT (T : List TargetR) (t : TargetR) : List TargetR := (pubR T t (plc T (keyT t.l t.ecu))).2
noncomputable def remE (T : List TargetR) (nm ecu : List UInt8) : Int := (remR T nm ecu (plc T (keyT nm ecu))).1
noncomputable def remT (T : List TargetR) (nm ecu : List UInt8) : List TargetR := (remR T nm ecu (plc T (keyT nm ecu))).2
def PubQ (s : RpS) (T' : List TargetR) (zr : Nat) (w w' : World) : Prop := ∃ B' d', RpNext w w' zr s { s with B := B', d := d', T := T' }
theorem publishS_calls {w : World} {zr : Nat} {s : RpS} (R : RpAt w zr s) (t : TargetR) (hr : RiseR s.T) (hm : s.T.length ≤ 1000) :
    Calls Tryz.prog 13 #[.pointer (some ⟨zr, 0, none⟩), .agg (RowC.enc t).toArray] w fun e w' => e = .returned (.int .i64 (pubE s.T t)) ∧ PubQ s (pubT s.T t) zr w w' := by
  have hb : HB w zr 73 (rpL s.sd (.pointer (some ⟨s.z0, 0, none⟩)) (.pointer (some ⟨s.z1, 0, none⟩)) s.f s.g s.v (.slice s.B s.T.length s.d :: [.slice s.X s.xl.length s.xc, s.t0, s.t1, s.s0, s.s1, .slice s.G s.gl.length s.gc, .slice s.C s.D.length s.cc])).toArray := R.hb
  have hB := R.hB
  refine (publish_calls t rfl hm hr ⟨fun ⟨ad, e, h⟩ => (R.aB ad e).1 h⟩ rfl).mono ?_
  rintro e w' ⟨k, rfl, hp, st, B', d', hb', hB', hBn⟩
  obtain rfl := plc_eq hp.out
  exact ⟨rfl, B', d', R.setT st.chg hb' hB' hBn.out⟩
theorem targetsS_calls {w : World} {zr : Nat} {s : RpS} (R : RpAt w zr s) (hm : s.T.length ≤ 1000000) :
    Calls Tryz.prog 14 #[.pointer (some ⟨zr, 0, none⟩)] w fun e w' => ∃ A' c', e = .returned (.slice A' s.T.length c') ∧ Step nowhere w w' ∧ HR w' A' (cellsOf s.T) ∧ NewA w A' := by
  have hb : HB w zr 73 (rpL s.sd (.pointer (some ⟨s.z0, 0, none⟩)) (.pointer (some ⟨s.z1, 0, none⟩)) s.f s.g s.v (.slice s.B s.T.length s.d :: [.slice s.X s.xl.length s.xc, s.t0, s.t1, s.s0, s.s1, .slice s.G s.gl.length s.gc, .slice s.C s.D.length s.cc])).toArray := R.hb
  have hB := R.hB
  exact targetsR_calls rfl hm
end Go.Proofs.YtgjnjhhhbkidbaaGreat
end
section
open Go Go.RowKit
namespace Go.Proofs.YtgjnjhhhbkidbaaGreat
/-- what is signed next -/
def nmT (s : RpS) (x : Int) : EvM := (sgT (s.v + 1) x s.T, mkP (pubS (kSeed s.sd s.g)) (kSeed s.sd s.g) s.u1 (sgT (s.v + 1) x s.T))
def nmS (s : RpS) (x : Int) : EvM := (sgS (s.v + 1) x, mkP (pubS (kSeed s.sd s.g)) (kSeed s.sd s.g) (s.u1 + 1) (sgS (s.v + 1) x))
def nmM (s : RpS) (x : Int) : EvM := (sgM (s.v + 1) x, mkP (pubS (kSeed s.sd s.g)) (kSeed s.sd s.g) (s.u1 + 1 + 1) (sgM (s.v + 1) x))
def SgnQ (s : RpS) (x : Int) (zr : Nat) (w w' : World) : Prop := ∃ a b c d zE, ∃ (ev : EvC) (C' : Option Addr) (cc' : Nat) (O' : Nat → Prop), RpNext w w' zr s { s with v := s.v + 1, u1 := s.u1 + 3, C := C', cc := cc', D := s.D ++ s.T, t0 := a, t1 := b, mt := nmM s x, s0 := c, s1 := d, ms := nmS s x, G := some ⟨zE, 0, none⟩, gc := 1, gl := [ev], LG := [nmT s x], O := O' }
def RotQ (s : RpS) (zr : Nat) (w w' : World) : Prop := ∃ (zk : Nat) (X' : Option Addr) (xc' : Nat) (ev : EvC) (O' : Nat → Prop), RpNext w w' zr s { s with g := s.g + 1, z1 := zk, u0 := s.u0 + 1, u1 := 0, X := X', xc := xc', xl := s.xl ++ [ev], LX := s.LX ++ [(rtB s.sd (s.g + 1), mkP (pubS (kSeed s.sd 0)) (kSeed s.sd 0) s.u0 (rtB s.sd (s.g + 1)))], O := O' }
/-- a repo that is new -/
def rp0 (sd : H32) (z0 z1 : Nat) : RpS := ⟨sd, pubS (kSeed sd 1), 1, 0, z0, z1, 0, 0, none, 0, [], none, 0, [], none, 0, [], [], .slice none 0 0, .slice none 0 0, ([], []), .slice none 0 0, .slice none 0 0, ([], []), none, 0, [], [], fun _ => False⟩
def NewRp (sd : H32) (zr : Nat) (w w' : World) : Prop := ∃ z0 z1, RpAt w' zr (rp0 sd z0 z1) ∧ ∀ x, rpO zr (rp0 sd z0 z1) x → w.heap.size ≤ x
theorem evS_nil (O : Nat → Prop) (w : World) : EvS O w [] [] (.slice none 0 0) (.slice none 0 0) := ⟨none, 0, 0, none, 0, 0, [], rfl, rfl, Rd.nil _ _, rfl, Nat.zero_le _, Nat.le_refl _, Rd.nil _ _, rfl, Nat.zero_le _, rfl, fun x hx => (by cases hx), fun _ e => (by cases e), fun _ e => (by cases e), fun x hx => (by cases hx)⟩
theorem newS_calls (sd : H32) (w : World) :
    Calls Tryz.prog 7 #[.agg (u8s sd.l)] w fun e w' => ∃ zr, e = .returned (.pointer (some ⟨zr, 0, none⟩)) ∧ Step nowhere w w' ∧ NewRp sd zr w w' := by
  refine (repoNew_calls sd w).mono ?_
  rintro e w' ⟨zr, z0, z1, rfl, st, hn, hr, hk0, hk1⟩
  obtain ⟨n1, n2, n3, n4, n5, n6⟩ := hn.out
  refine ⟨zr, rfl, st, z0, z1, ⟨hr, hk0, hk1, ⟨Own.nil _ _ _⟩, ⟨Own.nil _ _ _⟩, ⟨Own.nil _ _ _⟩, Rd.nil _ _, ⟨n4, n5, n6⟩, fun _ e => (by cases e), fun _ e => (by cases e), fun _ e => (by cases e), fun _ _ e => (by cases e), fun _ _ e => (by cases e), fun _ _ e => (by cases e), fun _ h => h.elim, fun _ h => h.elim, fun _ e => (by cases e), evS_nil _ _, evS_nil _ _, ⟨rfl, fun i h => absurd h (Nat.not_lt_zero _)⟩, ⟨rfl, fun i h => absurd h (Nat.not_lt_zero _)⟩⟩, fun x h => ?_⟩
  rcases h with h | h | h | ⟨_, e, _⟩ | ⟨_, e, _⟩ | ⟨_, e, _⟩
  · rw [h]; exact n1
  · rw [h]; exact n2
  · rw [h]; exact n3
  · cases e
  · cases e
  · cases e
end Go.Proofs.YtgjnjhhhbkidbaaGreat
end
section
open Go Go.RowKit
namespace Go.Proofs.YtgjnjhhhbkidbaaGreat
theorem eql_of_neqR {P : Program} {t : TypeId} {xs ys : Array Value} {b : Bool} {w : World} (h : (binOp .neq t (.agg xs) (.agg ys)).run P w = .ok (.bool (!b)) w) : (binOp .eql t (.agg xs) (.agg ys)).run P w = .ok (.bool b) w := by
  rw [run_neq_struct] at h
  rw [run_eql_struct]
  generalize (Op.equalIn 10000 t (.agg xs) (.agg ys)).run P w = r at h
  cases r with
  | ok b' w' =>
    simp only [Result.andThen] at h ⊢
    injection h with h1 h2
    injection h1 with h1
    subst h2
    cases b <;> cases b' <;> simp_all
  | _ => simp [Result.andThen] at h
/-- a list of targets as a repo has it -/
structure TOk (T : List TargetR) : Prop where
  rise : RiseR T
  may : ∀ t ∈ T, mayR t = true
  len : T.length ≤ 16
theorem TOk.nil : TOk [] := ⟨fun i j _ h => absurd h (Nat.not_lt_zero _), fun t h => (by cases h), Nat.zero_le _⟩
theorem pubT_ok {T : List TargetR} (h : TOk T) (t : TargetR) : TOk (pubT T t) := by
  have hp := plc_is (x := keyT t.l t.ecu) h.rise
  obtain ⟨k, hk⟩ : ∃ k, k = plc T (keyT t.l t.ecu) := ⟨_, rfl⟩
  unfold pubT
  rw [← hk] at hp ⊢
  unfold pubR
  cases hm : mayR t
  · exact h
  · cases hi : inR T (keyT t.l t.ecu) k
    · by_cases h16 : 16 ≤ T.length
      · rw [if_pos rfl, if_neg (by decide), if_pos h16]
        exact h
      · rw [if_pos rfl, if_neg (by decide), if_neg h16]
        refine ⟨insT_rise h.rise hp hi, fun x hx => ?_, ?_⟩
        · have hx' : x ∈ T.take k ++ t :: T.drop k := hx
          rcases List.mem_append.1 hx' with h1 | h1
          · exact h.may x (List.mem_of_mem_take h1)
          · rcases List.mem_cons.1 h1 with h1 | h1
            · rw [h1]; exact hm
            · exact h.may x (List.mem_of_mem_drop h1)
        · show (insT T k t).length ≤ 16
          rw [ins_len _ _ _ hp.1]
          omega
    · rw [if_pos rfl, if_pos rfl]
      obtain ⟨h1, h2⟩ := (inR_iff _ _ _).1 hi
      refine ⟨setT_rise h.rise h1 ⟨h2.1, h2.2⟩, fun x hx => ?_, ?_⟩
      · rcases List.mem_or_eq_of_mem_set hx with h3 | h3
        · exact h.may x h3
        · rw [h3]; exact hm
      · show (T.set k t).length ≤ 16
        rw [List.length_set]
        exact h.len
theorem pub_there {T : List TargetR} (h : TOk T) (t : TargetR) (h0 : pubE T t = 0) : ∃ i, i < (pubT T t).length ∧ gt (pubT T t) i = t := by
  have hp := plc_is (x := keyT t.l t.ecu) h.rise
  obtain ⟨k, hk⟩ : ∃ k, k = plc T (keyT t.l t.ecu) := ⟨_, rfl⟩
  unfold pubE at h0
  unfold pubT
  rw [← hk] at hp h0 ⊢
  unfold pubR at h0 ⊢
  cases hm : mayR t
  · rw [hm, if_neg (by decide)] at h0
    exact absurd (show (1 : Int) = 0 from h0) (by decide)
  · rw [hm, if_pos rfl] at h0
    rw [if_pos rfl]
    cases hi : inR T (keyT t.l t.ecu) k
    · rw [hi, if_neg (by decide)] at h0
      rw [if_neg (by decide)]
      by_cases h16 : 16 ≤ T.length
      · rw [if_pos h16] at h0
        exact absurd (show (12 : Int) = 0 from h0) (by decide)
      · rw [if_neg h16]
        refine ⟨k, ?_, gt_ins_eq t hp.1⟩
        show k < (insT T k t).length
        rw [ins_len _ _ _ hp.1]
        have := hp.1
        omega
    · rw [if_pos rfl]
      obtain ⟨h1, h2⟩ := (inR_iff _ _ _).1 hi
      refine ⟨k, ?_, gt_set_eq t h1⟩
      show k < (T.set k t).length
      rw [List.length_set]
      exact h1
/-- among the first is such a one -/
def thB (T : List TargetR) (t : TargetR) : Nat → Bool
  | 0 => false
  | k + 1 => thB T t k || tgBe (gt T k) t
theorem thB_of {T : List TargetR} {t : TargetR} {i : Nat} (h : gt T i = t) : ∀ n, i < n → thB T t n = true
  | n + 1, hn => by
    rw [thB]
    by_cases e : i = n
    · subst e
      rw [h, tgBe_self, Bool.or_true]
    · rw [thB_of h n (by omega)]
      rfl
end Go.Proofs.YtgjnjhhhbkidbaaGreat
end
