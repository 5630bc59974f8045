/- RlN, RlU -/
import Derived.Test.YtgjnjhhhbkidbaaGreatUcRlK
section
open Go Go.RowKit
namespace Go.Proofs.YtgjnjhhhbkidbaaGreat
/-- what is signed next -/
def nmT (s : RpS) (x : Int) : EvM := (sgT (s.v + 1) x s.T, mkP (pubS (kSeed s.sd s.g)) (kSeed s.sd s.g) s.u1 (sgT (s.v + 1) x s.T))
def nmS (s : RpS) (x : Int) : EvM := (sgS (s.v + 1) x, mkP (pubS (kSeed s.sd s.g)) (kSeed s.sd s.g) (s.u1 + 1) (sgS (s.v + 1) x))
def nmM (s : RpS) (x : Int) : EvM := (sgM (s.v + 1) x, mkP (pubS (kSeed s.sd s.g)) (kSeed s.sd s.g) (s.u1 + 1 + 1) (sgM (s.v + 1) x))
def SgnQ (s : RpS) (x : Int) (zr : Nat) (w w' : World) : Prop := ∃ a b c d zE, ∃ (ev : EvC) (C' : Option Addr) (cc' : Nat) (O' : Nat → Prop), RpNext w w' zr s { s with v := s.v + 1, u1 := s.u1 + 3, C := C', cc := cc', D := s.D ++ s.T, t0 := a, t1 := b, mt := nmM s x, s0 := c, s1 := d, ms := nmS s x, G := some ⟨zE, 0, none⟩, gc := 1, gl := [ev], LG := [nmT s x], O := O' }
theorem sgS_ok (v x : Int) (h1 : verB v = true) (h2 : numB x = true) : snapOk v x [⟨mayL, v⟩] = true := by
 unfold snapOk
 rw [h1, h2]
 have h3 : [(⟨mayL, v⟩ : PinR)].all pinOk = true := by
  rw [List.all_cons, List.all_nil, Bool.and_true]
  unfold pinOk
  rw [h1]
  rfl
 rw [h3]
 rfl
theorem sgM_ok (v x : Int) (h1 : verB v = true) (h2 : numB x = true) : timB v x v = true := by unfold timB; rw [h1, h2]; rfl
theorem sgS_len (v x : Int) (h1 : verB v = true) : (sgS v x).length ≤ 100000 := by
 have a1 := encAll_len [3]
 have a2 := encAll_len [v, x]
 have a3 := encAll_len [(([(⟨mayL, v⟩ : PinR)] : List PinR).length : Int)]
 have h3 : [(⟨mayL, v⟩ : PinR)].all pinOk = true := by
  rw [List.all_cons, List.all_nil, Bool.and_true]
  unfold pinOk
  rw [h1]
  rfl
 have a4 := pinsE_len [⟨mayL, v⟩] h3
 unfold sgS snapE
 simp only [List.length_append, List.length_cons, List.length_nil] at *
 omega
theorem sgT_len (v x : Int) (T : List TargetR) (h1 : T.all tgOk = true) (h2 : T.length ≤ 16) : (sgT v x T).length ≤ 100000 := by
 have a1 := encAll_len [4]
 have a2 := encAll_len [v, x]
 have a3 := encAll_len [(T.length : Int)]
 have a4 := encAll_len [((0 : Nat) : Int)]
 have a5 := tgsE_len T h1
 have a6 := encRow_len mayL (by decide)
 have a7 : (dlsE []).length = 0 := rfl
 have a8 : mayL.length = 3 := rfl
 unfold sgT tgsB
 simp only [List.length_append, List.length_cons, List.length_nil] at *
 omega
theorem sgM_len (v x : Int) : (sgM v x).length ≤ 100000 := by
 have a1 := encAll_len [2]
 have a2 := encAll_len [v, x, v]
 have a3 := (shaH (sgS v x)).len
 unfold sgM
 simp only [List.length_append, List.length_cons, List.length_nil] at *
 omega
theorem signS_calls {w : World} {zr : Nat} {s : RpS} (R : RpAt w zr s) (now life : Int) (hr : RiseR s.T) (hmay : ∀ t ∈ s.T, mayR t = true) (h16 : s.T.length ≤ 16) (hD : s.D.length ≤ 1000000) (h0 : 0 ≤ s.u1) (h13 : s.u1 ≤ 13) (hv0 : 0 ≤ s.v) (hv9 : s.v ≤ 1000000) (hn0 : 0 ≤ now) (hl0 : 0 ≤ life) (hnl : now + life ≤ 1073741824) :
    Calls Tryz.prog 8 #[.pointer (some ⟨zr, 0, none⟩), .int .i64 now, .int .i64 life] w fun e w' => e = .returned (.int .i64 0) ∧ SgnQ s (now + life) zr w w' := by
 have hb : HB w zr 73 (rpL s.sd (.pointer (some ⟨s.z0, 0, none⟩)) (.pointer (some ⟨s.z1, 0, none⟩)) s.f s.g s.v [.slice s.B s.T.length s.d, .slice s.X s.xl.length s.xc, s.t0, s.t1, s.s0, s.s1, .slice s.G s.gl.length s.gc, .slice s.C s.D.length s.cc]).toArray := R.hb
 have hk := R.k1
 have hB := R.hB
 have hC := R.hC
 have hver : verB (s.v + 1) = true := by unfold verB; rw [decide_eq_true (by omega), decide_eq_true (by omega)]; rfl
 have hnum : numB (now + life) = true := by unfold numB; rw [decide_eq_true (by omega), decide_eq_true (by omega)]; rfl
 have hall : s.T.all tgOk = true := List.all_eq_true.2 (fun t ht => mayR_ok (hmay t ht))
 refine (signT_calls (T := s.T) (D := s.D) rfl rfl h16 hD R.ap.2.1 (fun ad e => ⟨(R.aB ad e).2.2, (R.aB ad e).1⟩) (fun ad e => ⟨(R.aC ad e).2.2, (R.aC ad e).1⟩) R.aBC h0 h13 hv0 (by omega) hn0 hl0 hnl (tgsOk_of hr hmay h16 hver hnum) (sgS_ok _ _ hver hnum) (sgM_ok _ _ hver hnum) (sgT_len _ _ _ hall h16) (sgS_len _ _ hver) (sgM_len _ _)).mono ?_
 rintro e w' ⟨rfl, a, b, c, d2, zE, ev, C', cc', lo, hi, st, hk', hb', hB', hC', hp, hE, hr'⟩
 obtain ⟨hCn, hlo, hhi, hzl, hzh⟩ := hp.out
 have ch := st.chg
 have hsub : ∀ x, tri s.z1 zr s.C x → rpO zr s x := fun x h => by
  rcases h with h | h | h
  · exact .inr (.inr (.inl h))
  · exact .inl h
  · exact .inr (.inr (.inr (.inr (.inl h))))
 have hO : ∀ y, s.O y → ¬ tri s.z1 zr s.C y := fun y h1 h2 => R.oM y h1 (hsub y h2)
 have hlen : (s.D ++ s.T).length = s.D.length + s.T.length := List.length_append
 have i2 := R.k0
 have i6 := R.hX
 have o2 : OffB (tri s.z1 zr s.C) s.z0 := ⟨fun h => by
  rcases h with h | h | ⟨ad, e, h⟩
  · exact R.ap.2.2 h
  · exact R.ap.1 h
  · exact (R.aC ad e).2.1 h⟩
 have o6 : OffA (tri s.z1 zr s.C) s.X := ⟨fun bd e2 h => by
  rcases h with h | h | ⟨ad, e, h⟩
  · exact (R.aX bd e2).2.2 h
  · exact (R.aX bd e2).1 h
  · exact R.aCX ad bd e e2 h⟩
 have lr := R.hb.out.lt
 have l0 := R.k0.lt
 have l1 := R.k1.lt
 have hlts := R.lts
 have hCn' : ∀ ad, C' = some ad → C' = s.C ∨ w.heap.size ≤ ad.block := fun ad e => (hCn ad e).imp (fun h => h) (fun h => by omega)
 have ho1 : ∀ {m P v0 v1}, EvX w' lo hi m P v0 v1 → EvS (fun y => s.O y ∨ (lo ≤ y ∧ y < hi)) w' m P v0 v1 := fun h => h.s (fun y h1 h2 => .inr ⟨h1, h2⟩)
 refine ⟨rfl, a, b, c, d2, zE, ev, C', cc', fun y => s.O y ∨ (lo ≤ y ∧ y < hi), ⟨ch.mono (fun x _ h => hsub x h), ⟨?_, inferInstance, hk', hB', ?_, inferInstance, ?_, R.ap, R.aB, fun ad e => ⟨grown_off hCn' zr lr (fun a h => (R.aC a h).1) ad e, grown_off hCn' s.z0 l0 (fun a h => (R.aC a h).2.1) ad e, grown_off hCn' s.z1 l1 (fun a h => (R.aC a h).2.2) ad e⟩, R.aX, fun ad bd e e2 => fun h => grown_off hCn' ad.block (R.hB.out.lt e) (fun a h h2 => R.aBC ad a e h h2.symm) bd e2 h.symm, R.aBX, fun ad bd e e2 => grown_off hCn' bd.block (R.hX.out.lt e2) (fun a h => R.aCX a bd h e2) ad e, fun y h => ?_, fun y h1 h2 => ?_, fun ad e => ?_, ho1 hE.out.1, ho1 hE.out.2.1, (R.eX.chg ch hO).mono (fun y h => .inl h), ⟨rfl, fun i hi' => ?_⟩⟩, fun x h => ?_⟩⟩
 · show HB w' zr 73 (rpL s.sd _ _ s.f s.g (s.v + 1) [.slice s.B s.T.length s.d, .slice s.X s.xl.length s.xc, a, b, c, d2, .slice (some ⟨zE, 0, none⟩) 1 1, .slice C' (s.D ++ s.T).length cc']).toArray
   rw [hlen]
   exact hb'
 · show HO w' 42 37 C' (s.D ++ s.T).length cc' (cellsOf (s.D ++ s.T))
   rw [hlen]
   exact hC'
 · exact hr'.out
 · rcases h with h | h
   · exact Nat.lt_of_lt_of_le (R.oLt y h) ch.size
   · omega
 · have hC3 : ∀ bd, C' = some bd → bd.block = y → rpO zr s y ∨ hi ≤ y := fun bd e h => by
     rcases hCn bd e with h3 | h3
     · rw [h3] at e
       exact .inl (.inr (.inr (.inr (.inr (.inl ⟨bd, e, h⟩)))))
     · right
       omega
   have h3 : rpO zr s y ∨ hi ≤ y := by
    rcases h2 with h2 | h2 | h2 | h2 | ⟨bd, e, h2⟩ | h2
    · exact .inl (.inl h2)
    · exact .inl (.inr (.inl h2))
    · exact .inl (.inr (.inr (.inl h2)))
    · exact .inl (.inr (.inr (.inr (.inl h2))))
    · exact hC3 bd e h2
    · exact .inl (.inr (.inr (.inr (.inr (.inr h2)))))
   rcases h1 with h1 | h1
   · rcases h3 with h3 | h3
     · exact R.oM y h1 h3
     · have := R.oLt y h1
       omega
   · rcases h3 with h3 | h3
     · have := hlts y h3
       omega
     · omega
 · have e' : some (⟨zE, 0, none⟩ : Addr) = some ad := e
   injection e' with e'
   rw [← e']
   exact .inr ⟨hzl, hzh⟩
 · have h9 : i < 1 := hi'
   obtain rfl : i = 0 := by omega
   exact ho1 hE.out.2.2
 · rcases h with h | h | h
   · rcases h with h | h | h | h | ⟨bd, e, h⟩ | h
     · exact .inl (.inl (.inl h))
     · exact .inl (.inl (.inr (.inl h)))
     · exact .inl (.inl (.inr (.inr (.inl h))))
     · exact .inl (.inl (.inr (.inr (.inr (.inl h)))))
     · rcases hCn' bd e with h3 | h3
       · have e' : C' = some bd := e
         rw [h3] at e'
         exact .inl (.inl (.inr (.inr (.inr (.inr (.inl ⟨bd, e', h⟩))))))
       · right
         omega
     · exact .inl (.inl (.inr (.inr (.inr (.inr (.inr h))))))
   · exact .inl (.inr h)
   · right
     omega
def RotQ (s : RpS) (zr : Nat) (w w' : World) : Prop := ∃ (zk : Nat) (X' : Option Addr) (xc' : Nat) (ev : EvC) (O' : Nat → Prop), RpNext w w' zr s { s with g := s.g + 1, z1 := zk, u0 := s.u0 + 1, u1 := 0, X := X', xc := xc', xl := s.xl ++ [ev], LX := s.LX ++ [(rtB s.sd (s.g + 1), mkP (pubS (kSeed s.sd 0)) (kSeed s.sd 0) s.u0 (rtB s.sd (s.g + 1)))], O := O' }
/-- a repo that is new -/
def rp0 (sd : H32) (z0 z1 : Nat) : RpS := ⟨sd, pubS (kSeed sd 1), 1, 0, z0, z1, 0, 0, none, 0, [], none, 0, [], none, 0, [], [], .slice none 0 0, .slice none 0 0, ([], []), .slice none 0 0, .slice none 0 0, ([], []), none, 0, [], [], fun _ => False⟩
def NewRp (sd : H32) (zr : Nat) (w w' : World) : Prop := ∃ z0 z1, RpAt w' zr (rp0 sd z0 z1) ∧ ∀ x, rpO zr (rp0 sd z0 z1) x → w.heap.size ≤ x
theorem evS_nil (O : Nat → Prop) (w : World) : EvS O w [] [] (.slice none 0 0) (.slice none 0 0) := ⟨none, 0, 0, none, 0, 0, [], rfl, rfl, Rd.nil _ _, rfl, Nat.zero_le _, Nat.le_refl _, Rd.nil _ _, rfl, Nat.zero_le _, rfl, fun x hx => (by cases hx), fun _ e => (by cases e), fun _ e => (by cases e), fun x hx => (by cases hx)⟩
theorem newS_calls (sd : H32) (w : World) :
    Calls Tryz.prog 7 #[.agg (u8s sd.l)] w fun e w' => ∃ zr, e = .returned (.pointer (some ⟨zr, 0, none⟩)) ∧ Step nowhere w w' ∧ NewRp sd zr w w' := by
 refine (repoNew_calls sd w).mono ?_
 rintro e w' ⟨zr, z0, z1, rfl, st, hn, hr, hk0, hk1⟩
 obtain ⟨n1, n2, n3, n4, n5, n6⟩ := hn.out
 refine ⟨zr, rfl, st, z0, z1, ⟨hr, hk0, hk1, ⟨Own.nil _ _ _⟩, ⟨Own.nil _ _ _⟩, ⟨Own.nil _ _ _⟩, Rd.nil _ _, ⟨n4, n5, n6⟩, fun _ e => (by cases e), fun _ e => (by cases e), fun _ e => (by cases e), fun _ _ e => (by cases e), fun _ _ e => (by cases e), fun _ _ e => (by cases e), fun _ h => h.elim, fun _ h => h.elim, fun _ e => (by cases e), evS_nil _ _, evS_nil _ _, ⟨rfl, fun i h => absurd h (Nat.not_lt_zero _)⟩, ⟨rfl, fun i h => absurd h (Nat.not_lt_zero _)⟩⟩, fun x h => ?_⟩
 rcases h with h | h | h | ⟨_, e, _⟩ | ⟨_, e, _⟩ | ⟨_, e, _⟩
 · rw [h]; exact n1
 · rw [h]; exact n2
 · rw [h]; exact n3
 · cases e
 · cases e
 · cases e
end Go.Proofs.YtgjnjhhhbkidbaaGreat
end
section
open Go Go.RowKit
namespace Go.Proofs.YtgjnjhhhbkidbaaGreat
theorem RpAt.next0 {w w' : World} {zr : Nat} {s : RpS} (R : RpAt w zr s) (c : Chg (only s.z0) w w') (hk : KeyAt w' s.z0 (kSeed s.sd 0) s.u0) : RpNext w w' zr s s := by
 have st : Step (only s.z0) w w' := ⟨c⟩
 have i1 := R.hb
 have i3 := R.k1
 have i4 := R.hB
 have i5 := R.hC
 have i6 := R.hX
 have o1 : OffB (only s.z0) zr := ⟨fun h => R.ap.1 (show zr = s.z0 from h).symm⟩
 have o3 : OffB (only s.z0) s.z1 := ⟨fun h => R.ap.2.2 (show s.z1 = s.z0 from h).symm⟩
 have o4 : OffA (only s.z0) s.B := ⟨fun ad e h => (R.aB ad e).2.1 h⟩
 have o5 : OffA (only s.z0) s.C := ⟨fun ad e h => (R.aC ad e).2.1 h⟩
 have o6 : OffA (only s.z0) s.X := ⟨fun ad e h => (R.aX ad e).2.1 h⟩
 have hO : ∀ y, s.O y → ¬ only s.z0 y := fun y h1 h2 => R.oM y h1 (.inr (.inl h2))
 exact ⟨c.mono (fun x _ h => .inr (.inl h)), ⟨inferInstance, hk, inferInstance, inferInstance, inferInstance, inferInstance, R.hG.chg c (fun _ ad e h => hO _ (R.gO ad e) h), R.ap, R.aB, R.aC, R.aX, R.aBC, R.aBX, R.aCX, fun y h => Nat.lt_of_lt_of_le (R.oLt y h) c.size, R.oM, R.gO, R.et.chg c hO, R.es.chg c hO, R.eX.chg c hO, R.eG.chg c hO⟩, fun x h => .inl h⟩
theorem rootS_calls {w : World} {zr : Nat} {s : RpS} (R : RpAt w zr s) :
    Calls Tryz.prog 37 #[.pointer (some ⟨zr, 0, none⟩)] w fun e w' => ∃ K : List KR, e = .returned (.agg (rtL 1 1073741824 K).toArray) ∧ K.length = 4 ∧ RpNext w w' zr s s := by
 have hb := R.hb
 have hk := R.k0
 refine (rootR_calls (zk := s.z0) (zr := zr) R.ap.1).mono ?_
 rintro e w' ⟨K, rfl, hK, st, hk'⟩
 exact ⟨K, rfl, hK, R.next0 st.chg hk'⟩
theorem nw_next {w wr w' : World} {zr : Nat} {s s' : RpS} (hw : Nw w wr) (N : RpNext wr w' zr s s') (lo : ∀ x, rpO zr s x ∨ s.O x → w.heap.size ≤ x) : Nw w w' ∧ ∀ x, rpO zr s' x ∨ s'.O x → w.heap.size ≤ x :=
 ⟨⟨hw.out.trans N.st (fun x hx h => by have := lo x (.inl h); omega)⟩, fun x h => by
  rcases N.fr x h with h1 | h1
  · exact lo x h1
  · exact Nat.le_trans hw.out.size h1⟩
def hK1 : H32 := ⟨1 :: List.replicate 31 0, by simp⟩
theorem run_hK1 (w : World) : (Instr.build 23 #[(0, .int .u8 1)]).run Tryz.prog w = .ok (.agg (u8s hK1.l)) w := by kernel_rfl
set_option maxRecDepth 100000 in
set_option maxHeartbeats 3200000 in
theorem rpKnownG_calls (w : World) : Calls Tryz.prog 12 #[] w fun e w' => e = .returned (.bool true) ∧ Step nowhere w w' := by
 go_enter Tryz.func12, Tryz.ntmps12
 go_wp2_with (first | ((with_reducible apply wpl_build); exact run_hK1 _))
 refine (newS_calls hK1 _).mono ?_
 rintro e w1 ⟨zr, rfl, st1, z0, z1, R1, hlo1⟩
 obtain ⟨s, hs⟩ : ∃ s, s = rp0 hK1 z0 z1 := ⟨_, rfl⟩
 rw [← hs] at R1 hlo1
 have hT0 : s.T = [] := by rw [hs]; rfl
 have hD0 : s.D = [] := by rw [hs]; rfl
 have hu1 : s.u1 = 0 := by rw [hs]; rfl
 have hv : s.v = 0 := by rw [hs]; rfl
 have hx0 : s.xl.length = 0 := by rw [hs]; rfl
 have hg0 : s.gl.length = 0 := by rw [hs]; rfl
 have hO0 : ∀ x, ¬ s.O x := by rw [hs]; exact fun _ h => h
 have lo1 : ∀ x, rpO zr s x ∨ s.O x → w.heap.size ≤ x := fun x h => by
  rcases h with h | h
  · exact hlo1 x h
  · exact absurd h (hO0 x)
 have nw1 : Nw w w1 := ⟨st1.chg⟩
 clear hs hlo1 hO0 st1
 have hC2 := rootS_calls R1
 go_wp2_with fail
 refine hC2.mono ?_
 rintro e w2 ⟨K, rfl, hK, N2⟩
 obtain ⟨nw2, lo2⟩ := nw_next nw1 N2 lo1
 have R2 := N2.at'
 have hsK := rtL_len 1 1073741824 K hK
 have hf0 : ∀ w, (Instr.field 94 (.agg (rtL 1 1073741824 K).toArray) 0).run Tryz.prog w = .ok (.int .i64 1) w := fun _ => by kernel_rfl
 have hf3 : ∀ A1 n1 c1 a b c d A' n c' w, (Instr.field 34 (.agg #[.slice A1 n1 c1, a, b, c, d, .slice A' n c']) 3).run Tryz.prog w = .ok (.slice A' n c') w := fun _ _ _ _ _ _ _ _ _ _ _ => by kernel_rfl
 have hC3 := bundleS_calls R2 (by omega) (by omega)
 rw [hx0, hg0] at hC3
 clear hC2 N2 R1 lo1 nw1
 go_wp2_with fail
 refine hC3.mono ?_
 rintro e w3 ⟨a, b, c, d, A1, c1, A2, c2, rfl, st3, _⟩
 have R3 := R2.nw st3.chg
 have nw3 : Nw w w3 := ⟨nw2.out.trans st3.chg (fun _ _ h => h)⟩
 have hC4 := signS_calls R3 0 1 (by rw [hT0]; exact (fun i j _ h => absurd h (Nat.not_lt_zero _))) (by rw [hT0]; exact fun t h => (by cases h)) (by rw [hT0]; exact Nat.zero_le _) (by rw [hD0]; exact Nat.zero_le _) (by omega) (by omega) (by omega) (by omega) (by decide) (by decide) (by decide)
 clear hC3 R2 nw2
 go_wp2_with fail
 refine hC4.mono ?_
 rintro e w4 ⟨rfl, xa, xb, xc, xd, zE, ev, C', cc', O', N4⟩
 obtain ⟨nw4, lo4⟩ := nw_next nw3 N4 lo2
 have R4 := N4.at'
 have hC5 := bundleS_calls R4 (by show s.xl.length ≤ _; omega) (by show 1 ≤ _; decide)
 dsimp only at hC5
 rw [hx0, show [ev].length = 1 from rfl] at hC5
 clear hC4 N4 R3 lo2 nw3
 go_wp2_with fail
 refine hC5.mono ?_
 rintro e w5 ⟨a, b, c, d, A1, c1, A2, c2, rfl, st5, _⟩
 go_wp2_with fail
 go_ret
 exact ⟨rfl, stepN⟩
end Go.Proofs.YtgjnjhhhbkidbaaGreat
end
