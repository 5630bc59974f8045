/- Rows as bytes, and back (the law OctetRows). -/
import Derived.Test.YtifakldkcjjokaaDoorOcCuts
open Go Go.RowKit
namespace Go.Proofs.YtifakldkcjjokaaDoor
/-- the block of a row -/
def Bk (A : Option Addr) : Nat → Prop := fun k => ∃ ad, A = some ad ∧ ad.block = k
theorem dis_moved {w : World} {g : Nat} {A A' : Option Addr} {T : Nat → Prop} (h : ∀ x, Wf g A x → ¬ T x) (hT : ∀ x, T x → x < w.heap.size) (m : Moved w A A') : ∀ x, Wf g A' x → ¬ T x := by
  rintro x hx ht
  rcases m with rfl | ⟨ad, rfl, h2⟩
  · exact h x hx ht
  · rcases hx with rfl | ⟨ad', e, rfl⟩
    · exact h _ (.inl rfl) ht
    · injection e with e
      subst e
      have := hT _ ht
      omega
theorem Fresh.lt_ {w0 w : World} {A : Option Addr} {n c : Nat} {xs : List UInt8} (h : Fresh w0 w A n c xs) : ∀ x, Bk A x → x < w.heap.size := by
  rintro x ⟨ad, e, rfl⟩
  exact h.own.lt e
theorem Fresh.ge_ {w0 w : World} {A : Option Addr} {n c : Nat} {xs : List UInt8} (h : Fresh w0 w A n c xs) : ∀ x, Bk A x → w0.heap.size ≤ x := by
  rintro x ⟨ad, e, rfl⟩
  exact h.new ad e
/-- two Writers and a row, apart from one another, all made since w0 -/
structure St (w0 : World) (N M : Nat) (w : World) (A1 : Option Addr) (xs1 : List UInt8) (A2 : Option Addr) (xs2 : List UInt8) (A3 : Option Addr) (n3 c3 : Nat) (ys : List UInt8) : Prop where
  one : WrAt w N A1 xs1
  all : WrAt w M A2 xs2
  want : Fresh w0 w A3 n3 c3 ys
  d13 : ∀ x, Wf N A1 x → ¬ Bk A3 x
  d12 : ∀ x, Wf N A1 x → ¬ Wf M A2 x
  d23 : ∀ x, Wf M A2 x → ¬ Bk A3 x
  g1 : ∀ x, Wf N A1 x → w0.heap.size ≤ x
  g2 : ∀ x, Wf M A2 x → w0.heap.size ≤ x
section
variable {w0 w w' : World} {N M : Nat} {A1 A2 A3 A' : Option Addr} {xs1 xs2 ys xs' : List UInt8} {n3 c3 : Nat}
theorem St.step {S : Nat → Prop} (h : St w0 N M w A1 xs1 A2 xs2 A3 n3 c3 ys) (hc : Chg S w w') (hS : ∀ x, S x → w0.heap.size ≤ x ∧ ¬ Wf N A1 x ∧ ¬ Wf M A2 x ∧ ¬ Bk A3 x) : St w0 N M w' A1 xs1 A2 xs2 A3 n3 c3 ys :=
  ⟨h.one.chg hc (fun k hk hs => (hS k hs).2.1 hk), h.all.chg hc (fun k hk hs => (hS k hs).2.2.1 hk), h.want.far_ hc (fun ad e hs => (hS _ hs).2.2.2 ⟨ad, e, rfl⟩) (fun k hs => (hS k hs).1), h.d13, h.d12, h.d23, h.g1, h.g2⟩
theorem St.calm (h : St w0 N M w A1 xs1 A2 xs2 A3 n3 c3 ys) (hc : Chg nowhere w w') : St w0 N M w' A1 xs1 A2 xs2 A3 n3 c3 ys := h.step hc (fun _ h => h.elim)
theorem St.old (h : St w0 N M w A1 xs1 A2 xs2 A3 n3 c3 ys) {x : Nat} (hx : w.heap.size ≤ x) : ¬ Wf N A1 x ∧ ¬ Wf M A2 x ∧ ¬ Bk A3 x :=
  ⟨fun h1 => by have := h.one.old x h1; omega, fun h1 => by have := h.all.old x h1; omega, fun h1 => by have := h.want.lt_ x h1; omega⟩
theorem St.newer {S : Nat → Prop} {wx : World} (h : St w0 N M w A1 xs1 A2 xs2 A3 n3 c3 ys) (h' : St w0 N M wx A1 xs1 A2 xs2 A3 n3 c3 ys) (hc : Chg S wx w') (hS : ∀ x, S x → w.heap.size ≤ x) : St w0 N M w' A1 xs1 A2 xs2 A3 n3 c3 ys :=
  h'.step hc (fun x hx => ⟨Nat.le_trans h.want.chg.size (hS x hx), h.old (hS x hx)⟩)
theorem St.upd1 (h : St w0 N M w A1 xs1 A2 xs2 A3 n3 c3 ys) (hc : Chg (Wf N A1) w w') (hw : WrAt w' N A' xs') (m : Moved w A1 A') : St w0 N M w' A' xs' A2 xs2 A3 n3 c3 ys :=
  ⟨hw, h.all.chg hc (fun k hk hs => h.d12 k hs hk), h.want.far_ hc (fun ad e hs => h.d13 _ hs ⟨ad, e, rfl⟩) h.g1,
    dis_moved h.d13 h.want.lt_ m, dis_moved h.d12 h.all.old m, h.d23, wf_ge h.g1 h.want.chg.size m, h.g2⟩
theorem St.upd2 (h : St w0 N M w A1 xs1 A2 xs2 A3 n3 c3 ys) (hc : Chg (Wf M A2) w w') (hw : WrAt w' M A' xs') (m : Moved w A2 A') : St w0 N M w' A1 xs1 A' xs' A3 n3 c3 ys :=
  ⟨h.one.chg hc (fun k hk hs => h.d12 k hk hs), hw, h.want.far_ hc (fun ad e hs => h.d23 _ hs ⟨ad, e, rfl⟩) h.g2,
    h.d13, fun x hx hx' => dis_moved (fun y hy hy' => h.d12 y hy' hy) h.one.old m x hx' hx, dis_moved h.d23 h.want.lt_ m, h.g1, wf_ge h.g2 h.want.chg.size m⟩
theorem St.upd3 {n' c' : Nat} (h : St w0 N M w A1 xs1 A2 xs2 A3 n3 c3 ys) (hc : Chg (Bk A3) w w') (ho : Own w' 5 1 A' n' c' (bs xs')) (hn : n' = xs'.length) (hA : A' = A3 ∨ ∃ z, A' = some ⟨z, 0, none⟩ ∧ w.heap.size ≤ z) :
    St w0 N M w' A1 xs1 A2 xs2 A' n' c' xs' := by
  have hbk : ∀ x, Bk A' x → Bk A3 x ∨ w.heap.size ≤ x := by
    rintro x ⟨ad, e, rfl⟩
    rcases hA with rfl | ⟨z, e', hz⟩
    · exact .inl ⟨ad, e, rfl⟩
    · rw [e] at e'
      injection e' with e'
      rw [e']
      exact .inr hz
  refine ⟨h.one.chg hc (fun k hk hs => h.d13 k hk hs), h.all.chg hc (fun k hk hs => h.d23 k hk hs), h.want.push (Chg.refl nowhere w) hc ho hn hA, fun x hx hb => ?_, h.d12, fun x hx hb => ?_, h.g1, h.g2⟩
  · rcases hbk x hb with h1 | h1
    · exact h.d13 x hx h1
    · have := h.one.old x hx; omega
  · rcases hbk x hb with h1 | h1
    · exact h.d23 x hx h1
    · have := h.all.old x hx; omega
end
set_option maxRecDepth 100000 in
set_option maxHeartbeats 1600000 in
theorem octetRows_calls (A : Option Addr) (n c : Nat) (l : List Row) (B : Option Addr) (nr cr : Nat) (raw : List UInt8) (w : World) (hT : TabOk w) (hr : Rd w A (rowsV l)) (hn : l.length = n) (hmax : n ≤ 9223372036854775807) (hrow : RowsOk w l)
    (hrl : ∀ r ∈ l, r.p.length ≤ 9223372036854775807) (hraw : Rd w B (bs raw)) (hnr : raw.length = nr) (hmr : nr ≤ 9223372036854775807) :
    Calls Tryd.prog 4 #[.slice A n c, .slice B nr cr] w fun e w' => e = .returned (.bool true) ∧ Chg nowhere w w' := by
  have HT := Lib.hid hT
  have HR := Lib.hid hr
  have HN := Lib.hid hn
  have HRL := Lib.hid hrl
  have HROW := Lib.hid hrow
  have HRAW := Lib.hid hraw
  have HNR := Lib.hid hnr
  clear hT hr hn hrl hrow hraw hnr
  by_cases hbig : 4000 < nr
  · have g1 : (4000 : Int) < nr := by omega
    go_enter Tryd.func4, Tryd.ntmps4
    go_wp2_with fail
    refine (heavyRows_calls A n c l _ HR.out HN.out hmax HRL.out).mono ?_
    rintro e w1 ⟨⟨b, rfl, hb⟩, rfl⟩
    cases b
    · go_wp2_with fail
      go_ret
      exact ⟨rfl, Chg.refl _ _⟩
    · go_wp2_with fail
      go_ret
      exact ⟨rfl, Chg.refl _ _⟩
  · have g1 : ¬ (4000 : Int) < nr := by omega
    go_enter Tryd.func4, Tryd.ntmps4
    go_wp2_with fail
    refine (heavyRows_calls A n c l _ HR.out HN.out hmax HRL.out).mono ?_
    rintro e w1 ⟨⟨b, rfl, hb⟩, rfl⟩
    rcases b with _ | _
    · have hheavy := hb.out rfl
      have hsz := rowsSize_heavy l
      have hlen3 := heavySum_len l
      have hn4 : n ≤ 4000 := by have := HN.out; omega
      have HSZ : Hid (rowsSize l ≤ 16000) := Lib.hid (by omega)
      clear hb hheavy hsz hlen3
      have HPL : Hid (∀ r ∈ l, r.p.length ≤ 16000) := Lib.hid (fun r hr => by have := rowsSize_mem hr; have := HSZ.out; omega)
      have HENC : Hid (∀ k, (encRows (l.take k)).length ≤ 16000) := Lib.hid (fun k => by
        have h1 := encRows_len (l.take k) (fun r hr => by have := HPL.out r (List.mem_of_mem_take hr); omega)
        have h2 := rowsSize_take l k
        have h3 := HSZ.out
        omega)
      obtain ⟨N, hN⟩ : ∃ N, N = w1.heap.size := ⟨_, rfl⟩
      go_wp2_with fail
      rw [← hN]
      have HN1 := Lib.hid hN
      clear hN
      have hst0 : St w1 N (N + 1) ((w1.alloc (.cells #[.slice none 0 0] 25)).alloc (.cells #[.slice none 0 0] 25)) none [] none [] none 0 0 [] := by
        have h1 := HN1.out
        subst h1
        refine ⟨(WrAt.new w1).chg (S := nowhere) ((Chg.refl _ _).alloc _) (fun _ _ h => h), ?_, ⟨Own.nil _ _ _, rfl, ((Chg.refl _ _).alloc _).alloc _, fun ad e => by cases e⟩, ?_, ?_, ?_, wf_new _, ?_⟩
        · have := WrAt.new (w1.alloc (.cells #[.slice none 0 0] 25))
          simpa using this
        · rintro x _ ⟨ad, e, _⟩; cases e
        · rintro x (rfl | ⟨ad, e, _⟩) (h | ⟨ad, e, _⟩)
          · omega
          · cases e
          · cases e
          · cases e
        · rintro x _ ⟨ad, e, _⟩; cases e
        · intro x hx; have := wf_new _ x hx; omega
      have HST0 := Lib.hid hst0
      clear hst0
      go_loopw [7, 8] (fun a t wr => ∃ (k : Nat) (A1 A3 : Option Addr) (n3 c3 : Nat), k ≤ n ∧ t = .int .i64 k ∧ a = .slice A3 n3 c3 ∧ St w1 N (N + 1) wr A1 (encRows (l.take k)) none [] A3 n3 c3 (encRows (l.take k))) (fun _ t _ => n - (intOf t).toNat)
      case atStart => exact ⟨0, none, none, 0, 0, Nat.zero_le _, rfl, rfl, HST0.out⟩
      case round =>
        obtain ⟨k, A1, A3, n3, c3, hk, rfl, rfl, hst⟩ := hrel
        have HS := Lib.hid hst
        clear hst
        by_cases hlt : k < n
        · have e1 : (k : Int) < n := by omega
          have hkl : k < l.length := by have := HN.out; omega
          obtain ⟨ad, rfl, hc⟩ := (HR.out.later HS.out.want.chg) k l[k].v (by simp [rowsV, hkl])
          have hsn : encRows (l.take (k + 1)) = encRows (l.take k) ++ encRow l[k].p := by rw [← encRows_snoc, List.take_append_getElem hkl]
          have hmem := List.getElem_mem hkl
          have hp := HPL.out _ hmem
          have hq := (HROW.out _ hmem)
          rcases hrk : l[k] with ⟨RA, rc, p⟩
          rw [hrk] at hc hsn hp hq
          have hc' : wr.cell? (ad.add k) = some (.slice RA p.length rc) := hc
          have hp' : p.length ≤ 16000 := hp
          have HQ : Hid (Rd w1 RA (bs p)) := Lib.hid hq
          have HSN : Hid (encRows (l.take (k + 1)) = encRows (l.take k) ++ encRow p) := Lib.hid hsn
          have hck := HS.out.want.chg
          have HCELL : Hid (∀ wz, Chg nowhere w1 wz → wz.cell? (ad.add k) = some (.slice RA p.length rc)) := Lib.hid (fun wz hz => by
            obtain ⟨ad', e, h⟩ := (HR.out.later hz) k l[k].v (by simp [rowsV, hkl])
            injection e with e
            subst e
            rw [hrk] at h
            exact h)
          clear hc hp hq hsn hmem hrk hkl hck
          go_wp2_with fail
          refine (roomy_calls RA p.length rc p _ (HQ.out.later HS.out.want.chg) rfl (by omega)).mono ?_
          rintro e w2 ⟨A4, c4, rfl, h4⟩
          have HS2 := Lib.hid (HS.out.calm h4.out.chg)
          have hc2 := HCELL.out w2 HS2.out.want.chg
          have hcap : p.length ≤ c4 := by rcases h4.out.own.form with ⟨_, h, h', _⟩ | ⟨_, _, _, _, h, _⟩ <;> omega
          go_wp2_with fail
          refine (wBytes_calls N A1 (encRows (l.take k)) _ _ _ [⟨A4, c4, p⟩] _ (HS2.out.one.chg (S := nowhere) ((Chg.refl _ _).alloc _) (fun _ _ h => h)) (Rd.lit _ [_] _) rfl (HS2.out.one.fresh (Nat.le_refl _) _) ?_ ?_).mono ?_
          · intro r hr
            rw [List.mem_singleton.1 hr]
            refine ⟨?_, ?_⟩
            · have h5 := h4.out.own.rd.take p.length
              rw [bs_take, List.take_left' rfl] at h5
              exact h5.alloc _
            · intro _ ad4 e4 hW
              have h5 := h4.out.new ad4 e4
              have h6 := HS.out.one.old _ hW
              omega
          · have h5 := HENC.out k
            simp [rowsSize]
            omega
          rintro e w3 ⟨rfl, A5, h5, h6, h7⟩
          have hr1 : encRows [(⟨A4, c4, p⟩ : Row)] = encRow p := by simp [encRows]
          rw [hr1, ← HSN.out] at h5
          have HS3 : Hid (St w1 N (N + 1) w3 A5 (encRows (l.take (k + 1))) none [] A3 n3 c3 (encRows (l.take k))) := Lib.hid ((HS2.out.calm ((Chg.refl nowhere w2).alloc _)).upd1 h6.out h5.out (h7.out.imp id (fun ⟨ad, e, h⟩ => ⟨ad, e, h⟩)))
          have HO3 : Hid (Own w3 5 1 A4 (p.length + 1) c4 (bs (p ++ [171]))) := Lib.hid ((h4.out.own.alloc _).chg h6.out (by
            intro ad4 e4 hW
            have h5 := h4.out.new ad4 e4
            have h6 := HS.out.one.old _ hW
            omega))
          have HD5 : Hid (∀ x, Wf N A5 x → ¬ Bk A4 x) := Lib.hid (dis_moved (fun x hx => by
            rintro ⟨ad4, e4, rfl⟩
            have h5 := h4.out.new ad4 e4
            have h6 := HS.out.one.old _ hx
            omega) (fun x hx => by have := h4.out.lt_ x hx; simp; omega) h7.out)
          have hz3 : wr.heap.size ≤ w3.heap.size := by
            have h8 := h4.out.chg.size
            have h9 := h6.out.size
            simp at h9
            omega
          have hc3 := HCELL.out w3 HS3.out.want.chg
          clear h5 h6 h7 hr1
          go_wp2_with fail
          refine (stands_calls A4 RA p.length c4 rc p _ rfl (by omega) HO3.out (HQ.out.later HS3.out.want.chg)).mono ?_
          rintro e w4 ⟨rfl, hw4⟩
          have HC34 : Hid (Chg nowhere w3 w4) := by
            obtain ⟨z, rfl⟩ := hw4
            exact (Chg.refl _ _).drewN z
          clear hw4
          have HS4 := Lib.hid (HS3.out.calm HC34.out)
          have HO4 := Lib.hid (HO3.out.chg HC34.out (fun _ _ h => h))
          have hz4 : wr.heap.size ≤ w4.heap.size := by have := HC34.out.size; omega
          clear HC34
          go_wp2_with fail
          refine (spoil_calls A4 (p.length + 1) c4 _ _ HO4.out (by omega)).mono ?_
          rintro e w5 ⟨rfl, hc5⟩
          have HS5 : Hid (St w1 N (N + 1) w5 A5 (encRows (l.take (k + 1))) none [] A3 n3 c3 (encRows (l.take k))) := Lib.hid (HS4.out.step hc5.out (by
            rintro x ⟨ad4, e4, rfl⟩
            have h8 := h4.out.new ad4 e4
            refine ⟨Nat.le_trans HS.out.want.chg.size h8, ?_, ?_, ?_⟩
            · exact fun h9 => HD5.out _ h9 ⟨ad4, e4, rfl⟩
            · exact fun h9 => (HS.out.old h8).2.1 h9
            · exact fun h9 => (HS.out.old h8).2.2 h9))
          have hc5' := HCELL.out w5 HS5.out.want.chg
          clear hc5
          go_wp2_with fail
          refine (refBytes_calls RA p.length rc p _ (HQ.out.later HS5.out.want.chg) rfl (by omega)).mono ?_
          rintro e w6 ⟨A6, n6, c6, rfl, h6⟩
          have HS6 := Lib.hid (HS5.out.calm h6.out.chg)
          have HM : Hid ((bs (encRow p)).length = n6) := Lib.hid (by rw [bs_length]; exact h6.out.len.symm)
          have HB : Hid (n3 + n6 ≤ lim) := hid_lim (by
            have h7 := HS.out.want.len
            have h8 := h6.out.len
            have h9 := HENC.out k
            have h10 := encRow_len p (by omega)
            omega)
          go_wp2_with (at_builtin; refine wpList_append_many rfl (.tmp 49) (.tmp 54) elemB rfl (Nat.le_refl _) rfl HS6.out.want.own rfl h6.out.rd HM (bs_one _) HB ?_)
          intro A7 c7 w7 hown7 hchg7 hA7
          rw [bs_append, ← HSN.out] at hown7
          have HS7 := Lib.hid (HS6.out.upd3 hchg7 hown7 (by rw [HS.out.want.len, h6.out.len, HSN.out]; simp) (hA7.imp id fun h => ⟨_, h, Nat.le_refl _⟩))
          clear hown7 hchg7 hA7
          go_wp2_with fail
          exact ⟨⟨k + 1, A5, A7, n3 + n6, c7, by omega, by go_num, rfl, HS7.out⟩, by simp [intOf]; omega⟩
        · have e1 : (n : Int) ≤ k := by omega
          have hall : l.take k = l := List.take_of_length_le (by have := HN.out; omega)
          rw [hall] at HS
          have hE := HENC.out k
          rw [hall] at hE
          have HE := Lib.hid hE
          clear hall hE
          go_wp2_with fail
          refine (wBytes_calls (N + 1) none [] A n c l _ HS.out.all (HR.out.later HS.out.want.chg) HN.out (HR.out.apart (fun x hx => HS.out.g2 x hx)) (fun r hr => ⟨(HROW.out r hr).later HS.out.want.chg, (HROW.out r hr).apart (fun x hx => HS.out.g2 x hx)⟩) (by have := HSZ.out; simp; omega)).mono ?_
          rintro e w2 ⟨rfl, A5, h5, h6, h7⟩
          rw [List.nil_append] at h5
          have HS2 := Lib.hid (HS.out.upd2 h6.out h5.out h7.out)
          clear h5 h6 h7
          go_wp2_with fail
          refine (wRaw_calls N A1 (encRows l) B nr cr raw _ HS2.out.one (HRAW.out.later HS2.out.want.chg) HNR.out (by have := HE.out; have := HNR.out; omega)).mono ?_
          rintro e w3 ⟨rfl, A6, h5, h6, h7⟩
          have HS3 := Lib.hid (HS2.out.upd1 h6.out h5.out h7.out)
          clear h5 h6 h7
          go_wp2_with fail
          refine (wRaw_calls (N + 1) A5 (encRows l) B nr cr raw _ HS3.out.all (HRAW.out.later HS3.out.want.chg) HNR.out (by have := HE.out; have := HNR.out; omega)).mono ?_
          rintro e w4 ⟨rfl, A7, h5, h6, h7⟩
          have HS4 := Lib.hid (HS3.out.upd2 h6.out h5.out h7.out)
          clear h5 h6 h7
          have HM : Hid ((bs raw).length = nr) := Lib.hid (by rw [bs_length]; exact HNR.out)
          have HB : Hid (n3 + nr ≤ lim) := hid_lim (by have := HS.out.want.len; have := HE.out; omega)
          go_wp2_with (at_builtin; refine wpList_append_many rfl (.tmp 62) (.tmp 63) elemB rfl (Nat.le_refl _) rfl HS4.out.want.own rfl (HRAW.out.later HS4.out.want.chg) HM (bs_one _) HB ?_)
          intro A8 c8 w5 hown5 hchg5 hA5
          rw [bs_append] at hown5
          have HS5 := Lib.hid (HS4.out.upd3 hchg5 hown5 (by rw [HS.out.want.len, ← HNR.out]; simp) (hA5.imp id fun h => ⟨_, h, Nat.le_refl _⟩))
          clear hown5 hchg5 hA5
          have hlt5 : (encRows l ++ raw).length ≤ 20000 := by have := HE.out; have := HNR.out; simp; omega
          have HL5 := Lib.hid hlt5
          clear hlt5
          go_wp2_with fail
          refine (Out_calls N A6 (encRows l ++ raw) _ HS5.out.one (by have := HL5.out; omega)).mono ?_
          rintro e w6 ⟨A9, n9, c9, rfl, hn9, ho9, hc9, _⟩
          have HS6 := Lib.hid (HS5.out.calm hc9.out)
          go_wp2_with fail
          refine (same_calls A9 A8 n9 _ c9 c8 (encRows l ++ raw) (encRows l ++ raw) _ hn9.out.symm HS6.out.want.len.symm (by have := hn9.out; have := HL5.out; omega) ho9.out.rd HS6.out.want.rd).mono ?_
          rintro e w7 ⟨he, hw7⟩
          rw [decide_eq_true rfl] at he
          subst he
          have HC67 : Hid (Chg nowhere w6 w7) := by
            obtain ⟨z, rfl⟩ := hw7
            exact (Chg.refl _ _).drewN z
          clear hw7
          have HS7 := Lib.hid (HS6.out.calm HC67.out)
          clear HC67 ho9 hc9
          go_wp2_with fail
          refine (Out_calls (N + 1) A7 (encRows l ++ raw) _ HS7.out.all (by have := HL5.out; omega)).mono ?_
          rintro e w8 ⟨A10, n10, c10, rfl, hn10, ho10, hc10, _⟩
          have HS8 := Lib.hid (HS7.out.calm hc10.out)
          go_wp2_with fail
          refine (same_calls A10 A8 n10 _ c10 c8 (encRows l ++ raw) (encRows l ++ raw) _ hn10.out.symm HS8.out.want.len.symm (by have := hn10.out; have := HL5.out; omega) ho10.out.rd HS8.out.want.rd).mono ?_
          rintro e w9 ⟨he, hw9⟩
          rw [decide_eq_true rfl] at he
          subst he
          have HC89 : Hid (Chg nowhere w8 w9) := by
            obtain ⟨z, rfl⟩ := hw9
            exact (Chg.refl _ _).drewN z
          clear hw9
          have HS9 := Lib.hid (HS8.out.calm HC89.out)
          clear HC89 ho10 hc10
          go_wp2_with fail
          refine (NewReader_calls A8 _ c8 (encRows l ++ raw) _ HS9.out.want.rd HS9.out.want.len.symm (by have := HS9.out.want.len; have := HL5.out; omega)).mono ?_
          rintro e w10 ⟨g, d, rfl, hrd, hch, hg, hd⟩
          have HC10 := Lib.hid (HS9.out.want.chg.step hch.out (fun _ h => h.elim))
          have hg' : w1.heap.size ≤ g := Nat.le_trans HS9.out.want.chg.size hg
          have hd' : w1.heap.size ≤ d := Nat.le_trans HS9.out.want.chg.size hd
          clear hch
          go_wp2_with fail
          go_loopw [11] (fun t wz => ∃ i : Nat, i ≤ n ∧ t = .int .i64 i ∧ RdrAt wz g d ⟨encRows (l.drop i) ++ raw, false⟩ ∧ Chg nowhere w1 wz ∧ w10.heap.size ≤ wz.heap.size) (fun t _ => n - (intOf t).toNat)
          case atStart => exact ⟨0, Nat.zero_le _, rfl, hrd.out, HC10.out, Nat.le_refl _⟩
          case round =>
            obtain ⟨i, hi, rfl, hrdi, hci, hzi⟩ := hrel
            have HRDI := Lib.hid hrdi
            have HCI := Lib.hid hci
            clear hrdi hci
            by_cases hlti : i < n
            · have e2 : (i : Int) < n := by omega
              have hil : i < l.length := by have := HN.out; omega
              have hdr := encRows_drop l i hil
              have hmem := List.getElem_mem hil
              have hp := HPL.out _ hmem
              have hrow0 : RS.row ⟨encRows (l.drop i) ++ raw, false⟩ = (l[i].p, ⟨encRows (l.drop (i + 1)) ++ raw, false⟩) := by
                have h1 := row_cut l[i].p (encRows (l.drop (i + 1)) ++ raw) (encRow l[i].p ++ (encRows (l.drop (i + 1)) ++ raw)).length (by omega)
                rw [List.take_length, if_pos (by simp)] at h1
                rw [hdr, List.append_assoc, h1]
                congr 2
                exact List.take_of_length_le (by simp)
              have hlen : (⟨encRows (l.drop i) ++ raw, false⟩ : RS).b.length ≤ 1000000000000 := by
                have h1 : encRows l = encRows (l.take i) ++ encRows (l.drop i) := by
                  conv => lhs; rw [← List.take_append_drop i l]
                  exact List.flatMap_append
                have h2 := HE.out
                rw [h1, List.length_append] at h2
                have := HNR.out
                show (encRows (l.drop i) ++ raw).length ≤ _
                rw [List.length_append]
                omega
              have HROWI := Lib.hid hrow0
              have HLENI := Lib.hid hlen
              clear hrow0 hlen hdr
              go_wp2_with fail
              refine (rBytes_calls g d _ _ HRDI.out HLENI.out).mono ?_
              rintro e w11 ⟨A11, n11, c11, rfl, hn11, ho11, hr11, hc11, hg11⟩
              rw [HROWI.out] at hn11 ho11 hr11
              have HC11 := Lib.hid (HCI.out.step hc11.out (by rintro x rfl; exact hg'))
              obtain ⟨ad, rfl, hcr⟩ := (HR.out.later HC11.out) i l[i].v (by simp [rowsV, hil])
              have hqr := (HROW.out _ hmem).later HC11.out
              rcases hrk : l[i] with ⟨RA, rc, p⟩
              rw [hrk] at hcr hqr hn11 ho11 hp
              have hcr' : w11.cell? (ad.add i) = some (.slice RA p.length rc) := hcr
              have HQR : Hid (Rd w11 RA (bs p)) := Lib.hid hqr
              have hp' : p.length ≤ 16000 := hp
              have HRDN : Hid (RdrAt w11 g d ⟨encRows (l.drop (i + 1)) ++ raw, false⟩) := Lib.hid hr11.out
              have hz11 := hc11.out.size
              clear hcr hqr hr11 hc11 hp
              go_wp2_with fail
              refine (same_calls A11 RA n11 p.length c11 rc p p _ hn11.out.symm rfl (by have h1 : n11 = p.length := hn11.out; omega) ho11.out.rd HQR.out).mono ?_
              rintro e w12 ⟨he, hw12⟩
              rw [decide_eq_true rfl] at he
              subst he
              have HC12 : Hid (Chg nowhere w11 w12) := by
                obtain ⟨z, rfl⟩ := hw12
                exact (Chg.refl _ _).drewN z
              clear hw12
              go_wp2_with fail
              refine (spoil_calls A11 n11 c11 _ _ (ho11.out.chg HC12.out (fun _ _ h => h)) (by have h1 : n11 = p.length := hn11.out; omega)).mono ?_
              rintro e w13 ⟨rfl, hc13⟩
              have HRD13 : Hid (RdrAt w13 g d ⟨encRows (l.drop (i + 1)) ++ raw, false⟩) := Lib.hid ((HRDN.out.chg HC12.out (fun h => h) (fun h => h)).chg2 hc13.out (by
                rintro ⟨ad1, e1', h⟩
                have := hg11.out ad1 e1'
                have := HRDI.out.lt
                omega) (by
                rintro hne ⟨ad1, e1', h⟩
                have := hg11.out ad1 e1'
                have := HRDI.out.dlt (by
                  intro h0
                  have h1 := congrArg List.length h0
                  have h2 := congrArg List.length (encRows_drop l i hil)
                  have h3 : (encRows (l.drop (i + 1)) ++ raw).length ≠ 0 := fun h => hne (List.eq_nil_of_length_eq_zero h)
                  simp only [List.length_append, List.length_nil] at h1 h2 h3
                  omega)
                omega))
              have HC13 : Hid (Chg nowhere w1 w13) := Lib.hid ((HC11.out.step HC12.out (fun _ h => h.elim)).step hc13.out (by
                rintro x ⟨ad1, e1', rfl⟩
                have h1 := hg11.out ad1 e1'
                have h2 := HC10.out.size
                omega))
              have hz13 : w10.heap.size ≤ w13.heap.size := by have h1 := HC12.out.size; have h2 := hc13.out.size; omega
              clear hc13
              go_wp2_with fail
              exact ⟨⟨i + 1, by omega, by go_num, HRD13.out, HC13.out, hz13⟩, by simp [intOf]; omega⟩
            · have e2 : (n : Int) ≤ i := by omega
              have hdn : l.drop i = [] := List.drop_eq_nil_of_le (by have := HN.out; omega)
              rw [hdn] at HRDI
              have hb0 : encRows [] ++ raw = raw := rfl
              rw [hb0] at HRDI
              clear hdn hb0
              have hrw : RS.raw ⟨raw, false⟩ nr = (raw, ⟨[], false⟩) := by
                unfold RS.raw
                rw [if_neg (by simp [HNR.out]), Int.toNat_natCast, ← HNR.out, List.take_length, List.drop_length]
              have HRW := Lib.hid hrw
              have hlr : (⟨raw, false⟩ : RS).b.length = nr := HNR.out
              have HLR := Lib.hid hlr
              clear hrw hlr
              go_wp2_with fail
              refine (Left_calls g d _ _ HRDI.out).mono ?_
              rintro e w11 ⟨rfl, rfl⟩
              rw [HLR.out]
              go_wp2_with fail
              refine (Raw_calls g d _ nr _ HRDI.out (by rw [HLR.out]; omega)).mono ?_
              rintro e w12 ⟨A12, n12, c12, rfl, hn12, ho12, hr12, hc12, hg12⟩
              rw [HRW.out] at hn12 ho12 hr12
              have HC12 := Lib.hid (HCI.out.step hc12.out (by rintro x rfl; exact hg'))
              have HR12 := Lib.hid hr12.out
              clear hr12 hc12
              go_wp2_with fail
              refine (same_calls A12 B n12 nr c12 cr raw raw _ hn12.out.symm HNR.out (by have h1 : n12 = raw.length := hn12.out; have := HNR.out; omega) ho12.out.rd (HRAW.out.later HC12.out)).mono ?_
              rintro e w13 ⟨he, hw13⟩
              rw [decide_eq_true rfl] at he
              subst he
              have HC123 : Hid (Chg nowhere w12 w13) := by
                obtain ⟨z, rfl⟩ := hw13
                exact (Chg.refl _ _).drewN z
              clear hw13
              go_wp2_with fail
              refine (Whole_calls g d _ _ (HR12.out.chg HC123.out (fun h => h) (fun h => h)) (by decide)).mono ?_
              rintro e w14 ⟨rfl, rfl⟩
              rw [show (!(⟨[], false⟩ : RS).e && decide ((⟨[], false⟩ : RS).b = [])) = true from rfl]
              have HC14 := Lib.hid (HC12.out.step HC123.out (fun _ h => h.elim))
              go_wp2_with fail
              refine (known_calls _ (HT.out.chg HC14.out (fun h => h))).mono ?_
              rintro e w15 ⟨rfl, h15⟩
              have HC15 := Lib.hid (HC14.out.step h15 (fun _ h => h.elim))
              clear h15
              go_wp2_with fail
              go_ret
              exact ⟨rfl, HC15.out⟩
    · go_wp2_with fail
      go_ret
      exact ⟨rfl, Chg.refl _ _⟩
end Go.Proofs.YtifakldkcjjokaaDoor
