/- RlX -/
import Derived.Test.YtgjnjhhhbkidbaaGreatUdRlU
import Derived.Test.YtgjnjhhhbkidbaaGreatUdEnI
open Go Go.RowKit
namespace Go.Proofs.YtgjnjhhhbkidbaaGreat
theorem sameEv_calls {m : List UInt8} {P : List MkV} {v0 v1 u0 u1 : Value} {w : World} (h : EvV w m P v0 v1) (g : EvV w m P u0 u1) :
    Calls Tryz.prog 34 #[.agg #[v0, v1], .agg #[u0, u1]] w fun e w' => e = .returned (.bool true) ∧ Step nowhere w w' := by
  obtain ⟨M, nb, cb, A, n, c, l, rfl, rfl, h1, h2, h3, h4, h5, h6, h7, h8⟩ := h
  obtain ⟨M', nb', cb', A', n', c', l', rfl, rfl, g1, g2, g3, g4, g5, g6, g7, g8⟩ := g
  have i1 : HR w M (bs m) := ⟨h1⟩
  have i2 : HR w M' (bs m) := ⟨g1⟩
  have i3 : HR w A (cellsOf l) := ⟨h4⟩
  have i4 : HR w A' (cellsOf l') := ⟨g4⟩
  exact sameEnv_calls (L := l) (Q := l') (fun x hx => (h8 x hx).1) (fun x hx => (g8 x hx).1) (show l.map MarkR.mv = l'.map MarkR.mv by rw [h7, g7]) h2 g2 h5 g5 (by omega) (fun x hx => ⟨by have := (h8 x hx).2.1; omega, by have := (h8 x hx).2.2; omega⟩)
def EvAt (w : World) (l : List EvC) (L : List EvM) (n : Nat) : Prop := ∀ i, i < n → EvV w (gtm L i).1 (gtm L i).2 (gt l i).v0 (gt l i).v1
theorem EvAt.nw {w w' : World} {l : List EvC} {L : List EvM} {n : Nat} (h : EvAt w l L n) (c : Chg nowhere w w') : EvAt w' l L n := fun i hi => (h i hi).nw c
set_option maxRecDepth 100000 in
set_option maxHeartbeats 6400000 in
theorem sameB_calls {A1 A2 B1 B2 : Option Addr} {n1 n2 c1 c2 d1 d2 : Nat} {a b c d a' b' c' d' : Value} {mt ms : EvM} {LX LG : List EvM} (l1 l2 k1 k2 : List EvC) {w : World} (ht : EvV w mt.1 mt.2 a b) (hs : EvV w ms.1 ms.2 c d) (ht' : EvV w mt.1 mt.2 a' b') (hs' : EvV w ms.1 ms.2 c' d') (h1 : Rd w A1 (cellsOf l1)) (h2 : Rd w A2 (cellsOf l2)) (g1 : Rd w B1 (cellsOf k1)) (g2 : Rd w B2 (cellsOf k2)) (hl1 : l1.length = n1) (hl2 : l2.length = n2) (gl1 : k1.length = n1) (gl2 : k2.length = n2) (hn1 : n1 ≤ 1000000) (hn2 : n2 ≤ 1000000) (e1 : EvAt w l1 LX n1) (e2 : EvAt w l2 LG n2) (f1 : EvAt w k1 LX n1) (f2 : EvAt w k2 LG n2) :
    Calls Tryz.prog 10 #[.agg #[.slice A1 n1 c1, a, b, c, d, .slice A2 n2 c2], .agg #[.slice B1 n1 d1, a', b', c', d', .slice B2 n2 d2]] w fun e w' => e = .returned (.bool true) ∧ Step nowhere w w' := by
  have HT := Lib.hid ht
  have HS := Lib.hid hs
  have HT' := Lib.hid ht'
  have HS' := Lib.hid hs'
  have H1 := Lib.hid h1
  have H2 := Lib.hid h2
  have G1 := Lib.hid g1
  have G2 := Lib.hid g2
  have E1 := Lib.hid e1
  have E2 := Lib.hid e2
  have F1 := Lib.hid f1
  have F2 := Lib.hid f2
  have o1 : Hid ((#[.slice A1 n1 c1, a, b, c, d, .slice A2 n2 c2] : Array Value).all (·.oneCell') = true) := Lib.hid (six_one _ _ _ _ _ _ rfl ht.one.1 ht.one.2 hs.one.1 hs.one.2 rfl)
  have o2 : Hid ((#[.slice B1 n1 d1, a', b', c', d', .slice B2 n2 d2] : Array Value).all (·.oneCell') = true) := Lib.hid (six_one _ _ _ _ _ _ rfl ht'.one.1 ht'.one.2 hs'.one.1 hs'.one.2 rfl)
  have q1 : ((n1 : Int) != (n1 : Int)) = false := by simp
  have q2 : ((n2 : Int) != (n2 : Int)) = false := by simp
  clear ht hs ht' hs' h1 h2 g1 g2 e1 e2 f1 f2
  go_enter Tryz.func10, Tryz.ntmps10
  go_wp2_with (first | ((with_reducible apply (wpl_loadpart (k := 1) (n := 2))); (exact rfl); infer_instance; infer_instance; (decide); (exact rfl); (exact rfl)) | ((with_reducible apply (wpl_box_agg (dst := some 2))); (exact rfl); intro z2 wz2 _ _ _) | ((with_reducible apply (wpl_box_agg (dst := some 3))); (exact rfl); intro z3 wz3 _ _ _) | ((with_reducible apply (wpl_guard (op := .load _ _))); (exact rfl)) | ((with_reducible apply (wpl_guard (op := .fieldAddr _ _ _))); (exact rfl)) | ((with_reducible apply wpl_loadcellN); (exact rfl); infer_instance; (exact rfl)))
  have nwa : Nw w wz3 := inferInstance
  refine (sameEv_calls (HT.out.nw nwa.out) (HT'.out.nw nwa.out)).mono ?_
  rintro e w4 ⟨rfl, st4⟩
  go_wp2_with (first | ((with_reducible apply (wpl_loadpart (k := 3) (n := 2))); (exact rfl); infer_instance; infer_instance; (decide); (exact rfl); (exact rfl)) | ((with_reducible apply (wpl_guard (op := .load _ _))); (exact rfl)) | ((with_reducible apply (wpl_guard (op := .fieldAddr _ _ _))); (exact rfl)))
  refine (sameEv_calls (HS.out.nw (stepN (w0 := w)).chg) (HS'.out.nw (stepN (w0 := w)).chg)).mono ?_
  rintro e w5 ⟨rfl, st5⟩
  have nwx : Nw w w5 := inferInstance
  have b2x : HB w5 z2 34 #[.slice A1 n1 c1, a, b, c, d, .slice A2 n2 c2] := inferInstance
  have b3x : HB w5 z3 34 #[.slice B1 n1 d1, a', b', c', d', .slice B2 n2 d2] := inferInstance
  go_wp2_with fail
  go_loopw [5] (fun iv wr => ∃ k : Nat, k ≤ n1 ∧ iv = .int .i64 (k : Int) ∧ Step nowhere w wr ∧ HB wr z2 34 #[.slice A1 n1 c1, a, b, c, d, .slice A2 n2 c2] ∧ HB wr z3 34 #[.slice B1 n1 d1, a', b', c', d', .slice B2 n2 d2]) (fun iv _ => n1 - (intOf iv).toNat)
  case atStart => exact ⟨0, Nat.zero_le _, rfl, stepN, b2x, b3x⟩
  case round =>
    clear b2x b3x nwx
    obtain ⟨k, hk, rfl, st, b2, b3⟩ := hrel
    have nr : Nw w wr := ⟨st.chg⟩
    by_cases hlt : k < n1
    · have hltI : (k : Int) < n1 := by omega
      have r1 : HR wr A1 (cellsOf l1) := ⟨H1.out.chg nr.out (fun _ _ _ h => h)⟩
      have r2 : HR wr B1 (cellsOf k1) := ⟨G1.out.chg nr.out (fun _ _ _ h => h)⟩
      have hkl : k < l1.length := by omega
      have hkk : k < k1.length := by omega
      have s1 : (RowC.enc (gt l1 k)).toArray.size = 2 := rfl
      have s2 : (RowC.enc (gt k1 k)).toArray.size = 2 := rfl
      go_wp2_with (first | ((with_reducible apply wpl_loadcellN); (exact rfl); infer_instance; (exact rfl)))
      refine wp_region_N (nowhere) (by kernel_rfl) (fun wd _ _ => ?_)
      refine' takeH (i := 0) (v := _) rfl (by kernel_rfl) (by kernel_rfl) (by kernel_rfl) (fun _ _ _ h => h) (yields_of (by rfl) (fun w' _ => ?_)) inferInstance ?_
      rotate_left
      · (go_simp; try with_reducible rfl)
      try simp only [Act.put, sA]; try simp only [sB, sC]
      refine' takeH (i := 1) (v := _) rfl (by kernel_rfl) (by kernel_rfl) (by kernel_rfl) (fun _ _ _ h => h) (yields_of (by rfl) (fun w' _ => ?_)) inferInstance ?_
      rotate_left
      · ((with_reducible apply (ev_loadcellN (k := 0))); (exact rfl); infer_instance; infer_instance; (exact rfl))
      try simp only [Act.put, sA]; try simp only [sB, sC]
      refine' takeH (i := 2) (v := _) rfl (by kernel_rfl) (by kernel_rfl) (by kernel_rfl) (fun _ _ _ h => h) (yields_of (by rfl) (fun w' _ => ?_)) inferInstance ?_
      rotate_left
      · (go_simp; try with_reducible rfl)
      try simp only [Act.put, sA]; try simp only [sB, sC]
      refine' takeH (i := 3) (v := _) rfl (by kernel_rfl) (by kernel_rfl) (by kernel_rfl) (fun _ _ _ h => h) (yields_of (by rfl) (fun w' _ => ?_)) inferInstance ?_
      rotate_left
      · ((with_reducible apply (ev_indexE (α := EvC) (t := 28))); (exact rfl); (exact rfl); infer_instance; infer_instance; (first | (with_reducible assumption) | omega | (focus (simp; done)) | (focus (simp; omega; done)) | decide); (exact rfl); (decide); (first | (with_reducible assumption) | omega | (focus (simp; done)) | (focus (simp; omega; done)) | decide))
      try simp only [Act.put, sA]; try simp only [sB, sC]
      refine' takeH (i := 4) (v := _) rfl (by kernel_rfl) (by kernel_rfl) (by kernel_rfl) (fun _ _ _ h => h) (yields_of (by rfl) (fun w' _ => ?_)) inferInstance ?_
      rotate_left
      · ((with_reducible apply (ev_loadE (α := EvC) (t := 32))); infer_instance; (exact rfl); infer_instance; (exact rfl); (decide); (first | (with_reducible assumption) | omega | (focus (simp; done)) | (focus (simp; omega; done)) | decide))
      try simp only [Act.put, sA]; try simp only [sB, sC]
      refine' takeH (i := 5) (v := _) rfl (by kernel_rfl) (by kernel_rfl) (by kernel_rfl) (fun _ _ _ h => h) (yields_of (by rfl) (fun w' _ => ?_)) inferInstance ?_
      rotate_left
      · (go_simp; try with_reducible rfl)
      try simp only [Act.put, sA]; try simp only [sB, sC]
      refine' takeH (i := 6) (v := _) rfl (by kernel_rfl) (by kernel_rfl) (by kernel_rfl) (fun _ _ _ h => h) (yields_of (by rfl) (fun w' _ => ?_)) inferInstance ?_
      rotate_left
      · ((with_reducible apply (ev_loadcellN (k := 0))); (exact rfl); infer_instance; infer_instance; (exact rfl))
      try simp only [Act.put, sA]; try simp only [sB, sC]
      refine' takeH (i := 7) (v := _) rfl (by kernel_rfl) (by kernel_rfl) (by kernel_rfl) (fun _ _ _ h => h) (yields_of (by rfl) (fun w' _ => ?_)) inferInstance ?_
      rotate_left
      · (go_simp; try with_reducible rfl)
      try simp only [Act.put, sA]; try simp only [sB, sC]
      refine' takeH (i := 8) (v := _) rfl (by kernel_rfl) (by kernel_rfl) (by kernel_rfl) (fun _ _ _ h => h) (yields_of (by rfl) (fun w' _ => ?_)) inferInstance ?_
      rotate_left
      · ((with_reducible apply (ev_indexE (α := EvC) (t := 28))); (exact rfl); (exact rfl); infer_instance; infer_instance; (first | (with_reducible assumption) | omega | (focus (simp; done)) | (focus (simp; omega; done)) | decide); (exact rfl); (decide); (first | (with_reducible assumption) | omega | (focus (simp; done)) | (focus (simp; omega; done)) | decide))
      try simp only [Act.put, sA]; try simp only [sB, sC]
      refine' takeH (i := 9) (v := _) rfl (by kernel_rfl) (by kernel_rfl) (by kernel_rfl) (fun _ _ _ h => h) (yields_of (by rfl) (fun w' _ => ?_)) inferInstance ?_
      rotate_left
      · ((with_reducible apply (ev_loadE (α := EvC) (t := 32))); infer_instance; (exact rfl); infer_instance; (exact rfl); (decide); (first | (with_reducible assumption) | omega | (focus (simp; done)) | (focus (simp; omega; done)) | decide))
      try simp only [Act.put, sA]; try simp only [sB, sC]
      refine goH (i := 10) (by kernel_rfl) rfl (fun K_ hK_ => ?_)
      go_simp
      refine (sameEv_calls (((E1.out k hlt).nw nr.out).nw (stepN (w0 := wr)).chg) (((F1.out k hlt).nw nr.out).nw (stepN (w0 := wr)).chg)).mono ?_
      rintro e w6 ⟨rfl, st6⟩
      refine hK_.out _ _ inferInstance (fun _ => ?_)
      clear hK_ K_
      try simp only [Act.put, sA]; try simp only [sB, sC]
      refine' takeH (i := 11) (v := _) rfl (by kernel_rfl) (by kernel_rfl) (by kernel_rfl) (fun _ _ _ h => h) (yields_of (by rfl) (fun w' _ => ?_)) inferInstance ?_
      rotate_left
      · (go_simp; try with_reducible rfl)
      try simp only [Act.put, sA]; try simp only [sB, sC]
      refine wpAnyH_done (by kernel_rfl) ?_ _
      go_wp2_with fail
      exact ⟨⟨k + 1, by omega, by go_num, stepN, inferInstance, inferInstance⟩, by simp [intOf]; omega⟩
    · have hltI : ¬ (k : Int) < n1 := by omega
      have nwx : Nw w wr := inferInstance
      have b2x : HB wr z2 34 #[.slice A1 n1 c1, a, b, c, d, .slice A2 n2 c2] := inferInstance
      have b3x : HB wr z3 34 #[.slice B1 n1 d1, a', b', c', d', .slice B2 n2 d2] := inferInstance
      go_wp2_with (first | ((with_reducible apply wpl_loadcellN); (exact rfl); infer_instance; (exact rfl)))
      go_loopw [6] (fun iv wr => ∃ k : Nat, k ≤ n2 ∧ iv = .int .i64 (k : Int) ∧ Step nowhere w wr ∧ HB wr z2 34 #[.slice A1 n1 c1, a, b, c, d, .slice A2 n2 c2] ∧ HB wr z3 34 #[.slice B1 n1 d1, a', b', c', d', .slice B2 n2 d2]) (fun iv _ => n2 - (intOf iv).toNat)
      case atStart => exact ⟨0, Nat.zero_le _, rfl, stepN, b2x, b3x⟩
      case round =>
        clear b2x b3x nwx
        obtain ⟨k, hk, rfl, st, b2, b3⟩ := hrel
        have nr : Nw w wr := ⟨st.chg⟩
        by_cases hlt : k < n2
        · have hltI : (k : Int) < n2 := by omega
          have r1 : HR wr A2 (cellsOf l2) := ⟨H2.out.chg nr.out (fun _ _ _ h => h)⟩
          have r2 : HR wr B2 (cellsOf k2) := ⟨G2.out.chg nr.out (fun _ _ _ h => h)⟩
          have hkl : k < l2.length := by omega
          have hkk : k < k2.length := by omega
          have s1 : (RowC.enc (gt l2 k)).toArray.size = 2 := rfl
          have s2 : (RowC.enc (gt k2 k)).toArray.size = 2 := rfl
          go_wp2_with (first | ((with_reducible apply wpl_loadcellN); (exact rfl); infer_instance; (exact rfl)))
          refine wp_region_N (nowhere) (by kernel_rfl) (fun wd _ _ => ?_)
          refine' takeH (i := 0) (v := _) rfl (by kernel_rfl) (by kernel_rfl) (by kernel_rfl) (fun _ _ _ h => h) (yields_of (by rfl) (fun w' _ => ?_)) inferInstance ?_
          rotate_left
          · (go_simp; try with_reducible rfl)
          try simp only [Act.put, sA]; try simp only [sB, sC]
          refine' takeH (i := 1) (v := _) rfl (by kernel_rfl) (by kernel_rfl) (by kernel_rfl) (fun _ _ _ h => h) (yields_of (by rfl) (fun w' _ => ?_)) inferInstance ?_
          rotate_left
          · ((with_reducible apply (ev_loadcellN (k := 5))); (exact rfl); infer_instance; infer_instance; (exact rfl))
          try simp only [Act.put, sA]; try simp only [sB, sC]
          refine' takeH (i := 2) (v := _) rfl (by kernel_rfl) (by kernel_rfl) (by kernel_rfl) (fun _ _ _ h => h) (yields_of (by rfl) (fun w' _ => ?_)) inferInstance ?_
          rotate_left
          · (go_simp; try with_reducible rfl)
          try simp only [Act.put, sA]; try simp only [sB, sC]
          refine' takeH (i := 3) (v := _) rfl (by kernel_rfl) (by kernel_rfl) (by kernel_rfl) (fun _ _ _ h => h) (yields_of (by rfl) (fun w' _ => ?_)) inferInstance ?_
          rotate_left
          · ((with_reducible apply (ev_indexE (α := EvC) (t := 28))); (exact rfl); (exact rfl); infer_instance; infer_instance; (first | (with_reducible assumption) | omega | (focus (simp; done)) | (focus (simp; omega; done)) | decide); (exact rfl); (decide); (first | (with_reducible assumption) | omega | (focus (simp; done)) | (focus (simp; omega; done)) | decide))
          try simp only [Act.put, sA]; try simp only [sB, sC]
          refine' takeH (i := 4) (v := _) rfl (by kernel_rfl) (by kernel_rfl) (by kernel_rfl) (fun _ _ _ h => h) (yields_of (by rfl) (fun w' _ => ?_)) inferInstance ?_
          rotate_left
          · ((with_reducible apply (ev_loadE (α := EvC) (t := 32))); infer_instance; (exact rfl); infer_instance; (exact rfl); (decide); (first | (with_reducible assumption) | omega | (focus (simp; done)) | (focus (simp; omega; done)) | decide))
          try simp only [Act.put, sA]; try simp only [sB, sC]
          refine' takeH (i := 5) (v := _) rfl (by kernel_rfl) (by kernel_rfl) (by kernel_rfl) (fun _ _ _ h => h) (yields_of (by rfl) (fun w' _ => ?_)) inferInstance ?_
          rotate_left
          · (go_simp; try with_reducible rfl)
          try simp only [Act.put, sA]; try simp only [sB, sC]
          refine' takeH (i := 6) (v := _) rfl (by kernel_rfl) (by kernel_rfl) (by kernel_rfl) (fun _ _ _ h => h) (yields_of (by rfl) (fun w' _ => ?_)) inferInstance ?_
          rotate_left
          · ((with_reducible apply (ev_loadcellN (k := 5))); (exact rfl); infer_instance; infer_instance; (exact rfl))
          try simp only [Act.put, sA]; try simp only [sB, sC]
          refine' takeH (i := 7) (v := _) rfl (by kernel_rfl) (by kernel_rfl) (by kernel_rfl) (fun _ _ _ h => h) (yields_of (by rfl) (fun w' _ => ?_)) inferInstance ?_
          rotate_left
          · (go_simp; try with_reducible rfl)
          try simp only [Act.put, sA]; try simp only [sB, sC]
          refine' takeH (i := 8) (v := _) rfl (by kernel_rfl) (by kernel_rfl) (by kernel_rfl) (fun _ _ _ h => h) (yields_of (by rfl) (fun w' _ => ?_)) inferInstance ?_
          rotate_left
          · ((with_reducible apply (ev_indexE (α := EvC) (t := 28))); (exact rfl); (exact rfl); infer_instance; infer_instance; (first | (with_reducible assumption) | omega | (focus (simp; done)) | (focus (simp; omega; done)) | decide); (exact rfl); (decide); (first | (with_reducible assumption) | omega | (focus (simp; done)) | (focus (simp; omega; done)) | decide))
          try simp only [Act.put, sA]; try simp only [sB, sC]
          refine' takeH (i := 9) (v := _) rfl (by kernel_rfl) (by kernel_rfl) (by kernel_rfl) (fun _ _ _ h => h) (yields_of (by rfl) (fun w' _ => ?_)) inferInstance ?_
          rotate_left
          · ((with_reducible apply (ev_loadE (α := EvC) (t := 32))); infer_instance; (exact rfl); infer_instance; (exact rfl); (decide); (first | (with_reducible assumption) | omega | (focus (simp; done)) | (focus (simp; omega; done)) | decide))
          try simp only [Act.put, sA]; try simp only [sB, sC]
          refine goH (i := 10) (by kernel_rfl) rfl (fun K_ hK_ => ?_)
          go_simp
          refine (sameEv_calls (((E2.out k hlt).nw nr.out).nw (stepN (w0 := wr)).chg) (((F2.out k hlt).nw nr.out).nw (stepN (w0 := wr)).chg)).mono ?_
          rintro e w6 ⟨rfl, st6⟩
          refine hK_.out _ _ inferInstance (fun _ => ?_)
          clear hK_ K_
          try simp only [Act.put, sA]; try simp only [sB, sC]
          refine' takeH (i := 11) (v := _) rfl (by kernel_rfl) (by kernel_rfl) (by kernel_rfl) (fun _ _ _ h => h) (yields_of (by rfl) (fun w' _ => ?_)) inferInstance ?_
          rotate_left
          · (go_simp; try with_reducible rfl)
          try simp only [Act.put, sA]; try simp only [sB, sC]
          refine wpAnyH_done (by kernel_rfl) ?_ _
          go_wp2_with fail
          exact ⟨⟨k + 1, by omega, by go_num, stepN, inferInstance, inferInstance⟩, by simp [intOf]; omega⟩
        · have hltI : ¬ (k : Int) < n2 := by omega
          go_wp2_with (first | ((with_reducible apply wpl_loadcellN); (exact rfl); infer_instance; (exact rfl)))
          go_ret
          exact ⟨rfl, stepN⟩
end Go.Proofs.YtgjnjhhhbkidbaaGreat
