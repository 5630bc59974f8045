/- RlK -/
import Derived.Test.YtgjnjhhhbkidbaaGreatUbRlD
import Derived.Test.YtgjnjhhhbkidbaaGreatUbRlG
import Derived.Test.YtgjnjhhhbkidbaaGreatUbRlJ
import Derived.Test.YtgjnjhhhbkidbaaGreatUbRsI
open Go Go.RowKit
namespace Go.Proofs.YtgjnjhhhbkidbaaGreat
noncomputable def plc (T : List TargetR) (x : TargetR) : Nat := open Classical in if h : ∃ k, PlcR T x k then Classical.choose h else 0
theorem plc_eq {T : List TargetR} {x : TargetR} {k : Nat} (h : PlcR T x k) : k = plc T x := by
  have he : ∃ k, PlcR T x k := ⟨k, h⟩
  unfold plc
  rw [dif_pos he]
  exact plc_unique h (Classical.choose_spec he)
theorem plc_is {T : List TargetR} {x : TargetR} (h : RiseR T) : PlcR T x (plc T x) := by
  obtain ⟨k, hk⟩ := plc_exists h x
  rw [← plc_eq hk]
  exact hk
structure RpS where
  sd : H32
  f : H32
  g : Int
  v : Int
  z0 : Nat
  z1 : Nat
  u0 : Int
  u1 : Int
  B : Option Addr
  d : Nat
  T : List TargetR
  C : Option Addr
  cc : Nat
  D : List TargetR
  X : Option Addr
  xc : Nat
  xl : List EvC
  LX : List EvM
  t0 : Value
  t1 : Value
  mt : EvM
  s0 : Value
  s1 : Value
  ms : EvM
  G : Option Addr
  gc : Nat
  gl : List EvC
  LG : List EvM
  O : Nat → Prop
def RpS.tl (s : RpS) : List Value := [.slice s.B s.T.length s.d, .slice s.X s.xl.length s.xc, s.t0, s.t1, s.s0, s.s1, .slice s.G s.gl.length s.gc, .slice s.C s.D.length s.cc]
/-- the blocks that it writes -/
def rpO (zr : Nat) (s : RpS) : Nat → Prop := fun x => x = zr ∨ x = s.z0 ∨ x = s.z1 ∨ rowOf s.B x ∨ rowOf s.C x ∨ rowOf s.X x
structure RpAt (w : World) (zr : Nat) (s : RpS) : Prop where
  hb : HB w zr 73 (rpL s.sd (.pointer (some ⟨s.z0, 0, none⟩)) (.pointer (some ⟨s.z1, 0, none⟩)) s.f s.g s.v s.tl).toArray
  k0 : KeyAt w s.z0 (kSeed s.sd 0) s.u0
  k1 : KeyAt w s.z1 (kSeed s.sd s.g) s.u1
  hB : HO w 42 37 s.B s.T.length s.d (cellsOf s.T)
  hC : HO w 42 37 s.C s.D.length s.cc (cellsOf s.D)
  hX : HO w 32 2 s.X s.xl.length s.xc (cellsOf s.xl)
  hG : Rd w s.G (cellsOf s.gl)
  ap : s.z0 ≠ zr ∧ s.z1 ≠ zr ∧ s.z0 ≠ s.z1
  aB : ∀ a, s.B = some a → a.block ≠ zr ∧ a.block ≠ s.z0 ∧ a.block ≠ s.z1
  aC : ∀ a, s.C = some a → a.block ≠ zr ∧ a.block ≠ s.z0 ∧ a.block ≠ s.z1
  aX : ∀ a, s.X = some a → a.block ≠ zr ∧ a.block ≠ s.z0 ∧ a.block ≠ s.z1
  aBC : ∀ a b, s.B = some a → s.C = some b → a.block ≠ b.block
  aBX : ∀ a b, s.B = some a → s.X = some b → a.block ≠ b.block
  aCX : ∀ a b, s.C = some a → s.X = some b → a.block ≠ b.block
  oLt : ∀ y, s.O y → y < w.heap.size
  oM : ∀ y, s.O y → ¬ rpO zr s y
  gO : ∀ a, s.G = some a → s.O a.block
  et : EvS s.O w s.mt.1 s.mt.2 s.t0 s.t1
  es : EvS s.O w s.ms.1 s.ms.2 s.s0 s.s1
  eX : EvL s.O w s.xl s.LX
  eG : EvL s.O w s.gl s.LG
theorem RpAt.lts {w : World} {zr : Nat} {s : RpS} (R : RpAt w zr s) : ∀ x, rpO zr s x → x < w.heap.size := by
  intro x h
  rcases h with h | h | h | ⟨a, e, h⟩ | ⟨a, e, h⟩ | ⟨a, e, h⟩
  · rw [h]; exact R.hb.out.lt
  · rw [h]; exact R.k0.lt
  · rw [h]; exact R.k1.lt
  · rw [← h]; exact R.hB.out.lt e
  · rw [← h]; exact R.hC.out.lt e
  · rw [← h]; exact R.hX.out.lt e
/-- nothing of it is touched -/
theorem RpAt.chg {w w' : World} {zr : Nat} {s : RpS} {S : Nat → Prop} (R : RpAt w zr s) (c : Chg S w w') (hs : ∀ y, S y → ¬ rpO zr s y ∧ ¬ s.O y) : RpAt w' zr s := by
  have st : Step S w w' := ⟨c⟩
  have i1 := R.hb
  have i2 := R.k0
  have i3 := R.k1
  have i4 := R.hB
  have i5 := R.hC
  have i6 := R.hX
  have o1 : OffB S zr := ⟨fun h => (hs _ h).1 (.inl rfl)⟩
  have o2 : OffB S s.z0 := ⟨fun h => (hs _ h).1 (.inr (.inl rfl))⟩
  have o3 : OffB S s.z1 := ⟨fun h => (hs _ h).1 (.inr (.inr (.inl rfl)))⟩
  have o4 : OffA S s.B := ⟨fun ad e h => (hs _ h).1 (.inr (.inr (.inr (.inl ⟨ad, e, rfl⟩))))⟩
  have o5 : OffA S s.C := ⟨fun ad e h => (hs _ h).1 (.inr (.inr (.inr (.inr (.inl ⟨ad, e, rfl⟩)))))⟩
  have o6 : OffA S s.X := ⟨fun ad e h => (hs _ h).1 (.inr (.inr (.inr (.inr (.inr ⟨ad, e, rfl⟩)))))⟩
  have hO : ∀ y, s.O y → ¬ S y := fun y h1 h2 => (hs y h2).2 h1
  exact ⟨inferInstance, inferInstance, inferInstance, inferInstance, inferInstance, inferInstance, R.hG.chg c (fun _ ad e h => (hs _ h).2 (R.gO ad e)), R.ap, R.aB, R.aC, R.aX, R.aBC, R.aBX, R.aCX, fun y h => Nat.lt_of_lt_of_le (R.oLt y h) c.size, R.oM, R.gO, R.et.chg c hO, R.es.chg c hO, R.eX.chg c hO, R.eG.chg c hO⟩
theorem RpAt.nw {w w' : World} {zr : Nat} {s : RpS} (R : RpAt w zr s) (c : Chg nowhere w w') : RpAt w' zr s := R.chg c (fun _ h => h.elim)
/-- from one state to the next -/
structure RpNext (w w' : World) (zr : Nat) (s s' : RpS) : Prop where
  st : Chg (rpO zr s) w w'
  at' : RpAt w' zr s'
  fr : ∀ x, rpO zr s' x ∨ s'.O x → (rpO zr s x ∨ s.O x) ∨ w.heap.size ≤ x
theorem grown_off {A A' : Option Addr} {w : World} (h : ∀ ad, A' = some ad → A' = A ∨ w.heap.size ≤ ad.block) (z : Nat) (hz : z < w.heap.size) (ha : ∀ ad, A = some ad → ad.block ≠ z) : ∀ ad, A' = some ad → ad.block ≠ z := fun ad e => by
  rcases h ad e with h1 | h1
  · rw [h1] at e
    exact ha ad e
  · omega
theorem gzr_sub {zr : Nat} {s : RpS} : ∀ x, gzr zr s.B x → rpO zr s x := fun x h => by
  rcases h with h | h
  · exact .inl h
  · exact .inr (.inr (.inr (.inl h)))
/-- the targets' row moved at most -/
theorem RpAt.setT {w w' : World} {zr : Nat} {s : RpS} (R : RpAt w zr s) (c : Chg (gzr zr s.B) w w') {B' : Option Addr} {d' : Nat} {T' : List TargetR} (hb : HB w' zr 73 (rpL s.sd (.pointer (some ⟨s.z0, 0, none⟩)) (.pointer (some ⟨s.z1, 0, none⟩)) s.f s.g s.v [.slice B' T'.length d', .slice s.X s.xl.length s.xc, s.t0, s.t1, s.s0, s.s1, .slice s.G s.gl.length s.gc, .slice s.C s.D.length s.cc]).toArray) (hB : HO w' 42 37 B' T'.length d' (cellsOf T')) (hn : ∀ ad, B' = some ad → B' = s.B ∨ w.heap.size ≤ ad.block) : RpNext w w' zr s { s with B := B', d := d', T := T' } := by
  have st : Step (gzr zr s.B) w w' := ⟨c⟩
  have hs := gzr_sub (zr := zr) (s := s)
  have i2 := R.k0
  have i3 := R.k1
  have i5 := R.hC
  have i6 := R.hX
  have o2 : OffB (gzr zr s.B) s.z0 := ⟨fun h => by
    rcases h with h | ⟨ad, e, h⟩
    · exact R.ap.1 h
    · exact (R.aB ad e).2.1 h⟩
  have o3 : OffB (gzr zr s.B) s.z1 := ⟨fun h => by
    rcases h with h | ⟨ad, e, h⟩
    · exact R.ap.2.1 h
    · exact (R.aB ad e).2.2 h⟩
  have o5 : OffA (gzr zr s.B) s.C := ⟨fun bd e2 h => by
    rcases h with h | ⟨ad, e, h⟩
    · exact (R.aC bd e2).1 h
    · exact R.aBC ad bd e e2 h⟩
  have o6 : OffA (gzr zr s.B) s.X := ⟨fun bd e2 h => by
    rcases h with h | ⟨ad, e, h⟩
    · exact (R.aX bd e2).1 h
    · exact R.aBX ad bd e e2 h⟩
  have hO : ∀ y, s.O y → ¬ gzr zr s.B y := fun y h1 h2 => R.oM y h1 (hs y h2)
  have lr := R.hb.out.lt
  have l0 := R.k0.lt
  have l1 := R.k1.lt
  have fr : ∀ x, rpO zr { s with B := B', d := d', T := T' } x → rpO zr s x ∨ w.heap.size ≤ x := fun x h => by
    rcases h with h | h | h | ⟨ad, e, h⟩ | h | h
    · exact .inl (.inl h)
    · exact .inl (.inr (.inl h))
    · exact .inl (.inr (.inr (.inl h)))
    · rcases hn ad e with h1 | h1
      · have e' : B' = some ad := e
        rw [h1] at e'
        exact .inl (.inr (.inr (.inr (.inl ⟨ad, e', h⟩))))
      · right
        omega
    · exact .inl (.inr (.inr (.inr (.inr (.inl h)))))
    · exact .inl (.inr (.inr (.inr (.inr (.inr h)))))
  refine ⟨c.mono (fun x _ h => hs x h), ⟨hb, inferInstance, inferInstance, hB, inferInstance, inferInstance, R.hG.chg c (fun _ ad e => hO _ (R.gO ad e)), R.ap, fun ad e => ⟨grown_off hn zr lr (fun a h => (R.aB a h).1) ad e, grown_off hn s.z0 l0 (fun a h => (R.aB a h).2.1) ad e, grown_off hn s.z1 l1 (fun a h => (R.aB a h).2.2) ad e⟩, R.aC, R.aX, fun ad bd e e2 => grown_off hn bd.block (R.hC.out.lt e2) (fun a h => R.aBC a bd h e2) ad e, fun ad bd e e2 => grown_off hn bd.block (R.hX.out.lt e2) (fun a h => R.aBX a bd h e2) ad e, R.aCX, fun y h => Nat.lt_of_lt_of_le (R.oLt y h) c.size, fun y h1 h2 => ?_, R.gO, R.et.chg c hO, R.es.chg c hO, R.eX.chg c hO, R.eG.chg c hO⟩, fun x h => ?_⟩
  · rcases fr y h2 with h3 | h3
    · exact R.oM y h1 h3
    · have := R.oLt y h1
      omega
  · rcases h with h | h
    · exact (fr x h).imp (fun h => .inl h) (fun h => h)
    · exact .inl (.inr h)
noncomputable def pubE (T : List TargetR) (t : TargetR) : Int := (pubR T t (plc T (keyT t.l t.ecu))).1
noncomputable def pubT (T : List TargetR) (t : TargetR) : List TargetR := (pubR T t (plc T (keyT t.l t.ecu))).2
noncomputable def remE (T : List TargetR) (nm ecu : List UInt8) : Int := (remR T nm ecu (plc T (keyT nm ecu))).1
noncomputable def remT (T : List TargetR) (nm ecu : List UInt8) : List TargetR := (remR T nm ecu (plc T (keyT nm ecu))).2
def PubQ (s : RpS) (T' : List TargetR) (zr : Nat) (w w' : World) : Prop := ∃ B' d', RpNext w w' zr s { s with B := B', d := d', T := T' }
theorem publishS_calls {w : World} {zr : Nat} {s : RpS} (R : RpAt w zr s) (t : TargetR) (hr : RiseR s.T) (hm : s.T.length ≤ 1000) :
    Calls Tryz.prog 13 #[.pointer (some ⟨zr, 0, none⟩), .agg (RowC.enc t).toArray] w fun e w' => e = .returned (.int .i64 (pubE s.T t)) ∧ PubQ s (pubT s.T t) zr w w' := by
  have hb : HB w zr 73 (rpL s.sd (.pointer (some ⟨s.z0, 0, none⟩)) (.pointer (some ⟨s.z1, 0, none⟩)) s.f s.g s.v (.slice s.B s.T.length s.d :: [.slice s.X s.xl.length s.xc, s.t0, s.t1, s.s0, s.s1, .slice s.G s.gl.length s.gc, .slice s.C s.D.length s.cc])).toArray := R.hb
  have hB := R.hB
  refine (publish_calls t rfl hm hr ⟨fun ⟨ad, e, h⟩ => (R.aB ad e).1 h⟩ rfl).mono ?_
  rintro e w' ⟨k, rfl, hp, st, B', d', hb', hB', hBn⟩
  obtain rfl := plc_eq hp.out
  exact ⟨rfl, B', d', R.setT st.chg hb' hB' hBn.out⟩
theorem removeS_calls {w : World} {zr : Nat} {s : RpS} (R : RpAt w zr s) (nm ecu : List UInt8) (hr : RiseR s.T) (hm : s.T.length ≤ 1000) :
    Calls Tryz.prog 17 #[.pointer (some ⟨zr, 0, none⟩), .string (strL nm), .string (strL ecu)] w fun e w' => e = .returned (.int .i64 (remE s.T nm ecu)) ∧ PubQ s (remT s.T nm ecu) zr w w' := by
  have hb : HB w zr 73 (rpL s.sd (.pointer (some ⟨s.z0, 0, none⟩)) (.pointer (some ⟨s.z1, 0, none⟩)) s.f s.g s.v (.slice s.B s.T.length s.d :: [.slice s.X s.xl.length s.xc, s.t0, s.t1, s.s0, s.s1, .slice s.G s.gl.length s.gc, .slice s.C s.D.length s.cc])).toArray := R.hb
  have hB := R.hB
  refine (remove_calls nm ecu rfl hm hr ⟨fun ⟨ad, e, h⟩ => (R.aB ad e).1 h⟩ ⟨fun ad e h => (R.aB ad e).1 h⟩ rfl).mono ?_
  rintro e w' ⟨k, rfl, hp, st, hb', hB'⟩
  obtain rfl := plc_eq hp.out
  exact ⟨rfl, s.B, s.d, R.setT st.chg hb' hB' (fun _ _ => .inl rfl)⟩
theorem targetsS_calls {w : World} {zr : Nat} {s : RpS} (R : RpAt w zr s) (hm : s.T.length ≤ 1000000) :
    Calls Tryz.prog 14 #[.pointer (some ⟨zr, 0, none⟩)] w fun e w' => ∃ A' c', e = .returned (.slice A' s.T.length c') ∧ Step nowhere w w' ∧ HR w' A' (cellsOf s.T) ∧ NewA w A' := by
  have hb : HB w zr 73 (rpL s.sd (.pointer (some ⟨s.z0, 0, none⟩)) (.pointer (some ⟨s.z1, 0, none⟩)) s.f s.g s.v (.slice s.B s.T.length s.d :: [.slice s.X s.xl.length s.xc, s.t0, s.t1, s.s0, s.s1, .slice s.G s.gl.length s.gc, .slice s.C s.D.length s.cc])).toArray := R.hb
  have hB := R.hB
  exact targetsR_calls rfl hm
set_option maxRecDepth 100000 in
theorem ledgerS_calls {w : World} {zr : Nat} {s : RpS} (R : RpAt w zr s) (hm : s.D.length ≤ 1000000) :
    Calls Tryz.prog 19 #[.pointer (some ⟨zr, 0, none⟩)] w fun e w' => ∃ A' c', e = .returned (.slice A' s.D.length c') ∧ Step nowhere w w' ∧ HR w' A' (cellsOf s.D) ∧ NewA w A' := by
  have hb := R.hb
  have hC := R.hC
  have hc75 : nth (rpL s.sd (.pointer (some ⟨s.z0, 0, none⟩)) (.pointer (some ⟨s.z1, 0, none⟩)) s.f s.g s.v s.tl).toArray.toList 75 = some (.slice s.C s.D.length s.cc) := by
    rw [← nth_get]
    exact rp_get68 s.sd _ _ s.f s.g s.v s.tl 7
  go_enter Tryz.func19, Tryz.ntmps19
  go_wp2_with (first | ((with_reducible apply (wpl_loadcellN (k := 75))); (exact rfl); (exact hb); (exact hc75)))
  refine (cloneR_calls (L := s.D) rfl hm).mono ?_
  rintro e w5 ⟨A', c', rfl, st5, hr5, hn5⟩
  go_wp2_with fail
  go_ret
  exact ⟨A', c', rfl, stepN, hr5, hn5⟩
theorem bundleS_calls {w : World} {zr : Nat} {s : RpS} (R : RpAt w zr s) (hx : s.xl.length ≤ 1000000) (hg : s.gl.length ≤ 1000000) :
    Calls Tryz.prog 9 #[.pointer (some ⟨zr, 0, none⟩)] w fun e w' => ∃ a b c d A1 c1 A2 c2, e = .returned (.agg #[.slice A1 s.xl.length c1, a, b, c, d, .slice A2 s.gl.length c2]) ∧ Step nowhere w w' ∧ BunG w w' s.LX s.LG s.mt s.ms a b c d A1 A2 s.xl.length s.gl.length := by
  have hb : HB w zr 73 (rpL s.sd (.pointer (some ⟨s.z0, 0, none⟩)) (.pointer (some ⟨s.z1, 0, none⟩)) s.f s.g s.v (.slice s.B s.T.length s.d :: [.slice s.X s.xl.length s.xc, s.t0, s.t1, s.s0, s.s1, .slice s.G s.gl.length s.gc, .slice s.C s.D.length s.cc])).toArray := R.hb
  exact bundleG_calls s.xl s.gl s.LX s.LG R.et.v R.es.v R.hX.out.rd R.hG rfl rfl hx hg R.eX.1.symm R.eG.1.symm (fun i hi => (R.eX.2 i hi).v) (fun i hi => (R.eG.2 i hi).v)
end Go.Proofs.YtgjnjhhhbkidbaaGreat
