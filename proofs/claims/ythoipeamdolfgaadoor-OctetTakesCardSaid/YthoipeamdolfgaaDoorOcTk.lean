/- Any bytes, taken as somebody asks (the law OctetTakes). -/
import Derived.Test.YthoipeamdolfgaaDoorRowI
import Derived.Test.YthoipeamdolfgaaDoorRdN
import Derived.Test.YthoipeamdolfgaaDoorRrB
import Derived.Test.YthoipeamdolfgaaDoorOcHlp2
open Go Go.RowKit
namespace Go.Proofs.YthoipeamdolfgaaDoor
instance : CellT Tryd.prog 3 := ⟨fun _ => by kernel_rfl, fun _ => by kernel_rfl⟩
instance : CellT Tryd.prog 4 := ⟨fun _ => by kernel_rfl, fun _ => by kernel_rfl⟩
instance : CellT Tryd.prog 22 := ⟨fun _ => by kernel_rfl, fun _ => by kernel_rfl⟩
instance : ZeroT Tryd.prog 3 #[.int .i64 0] := ⟨.int .i64 0, fun _ => by kernel_rfl, rfl⟩
instance : ElemT Tryd.prog 23 3 1 8 (.int .i64 0) := ⟨⟨Tryd.underlying23, by kernel_rfl, rfl, by decide⟩⟩
/-- both readers, and the room -/
structure TkI (w wr : World) (g d g2 d2 : Nat) (AX : Option Addr) (nx cx : Nat) (ys : List UInt8) (s : RS) : Prop where
  r : RdrAt wr g d s
  q : RRAt wr g2 d2 s
  x : Own wr 5 1 AX nx cx (bs ys)
  chg : Chg nowhere w wr
  hg : w.heap.size ≤ g
  hg2 : w.heap.size ≤ g2
  ne : g ≠ g2
  nd : s.b ≠ [] → d ≠ g2
  nd2 : s.b ≠ [] → d2 ≠ g
  ax : ∀ ad, AX = some ad → ad.block ≠ g ∧ ad.block ≠ g2
  len : s.b.length ≤ 4000
section
variable {w wr w1 w2 w0 : World} {g d g2 d2 : Nat} {AX : Option Addr} {nx cx : Nat} {ys : List UInt8} {s s' : RS} {S : Nat → Prop}
theorem TkI.calm (I : TkI w wr g d g2 d2 AX nx cx ys s) (hc : Chg nowhere wr w1) : TkI w w1 g d g2 d2 AX nx cx ys s :=
  ⟨I.r.chg hc (fun h => h) (fun h => h), I.q.chg hc (fun h => h) (fun h => h), I.x.chg hc (fun _ _ h => h), I.chg.step hc (fun _ h => h.elim), I.hg, I.hg2, I.ne, I.nd, I.nd2, I.ax, I.len⟩
theorem TkI.far (I0 : TkI w w0 g d g2 d2 AX nx cx ys s') (I : TkI w w1 g d g2 d2 AX nx cx ys s) (sub : s.b ≠ [] → s'.b ≠ []) (hc : Chg S w1 w2) (hS : ∀ x, S x → w0.heap.size ≤ x) : TkI w w2 g d g2 d2 AX nx cx ys s := by
  refine ⟨I.r.chg2 hc (fun h => ?_) (fun hne h => ?_), I.q.chg2 hc (fun h => ?_) (fun hne h => ?_), I.x.chg hc (fun ad e h => ?_), I.chg.step hc (fun x hx => Nat.le_trans I0.chg.size (hS x hx)), I.hg, I.hg2, I.ne, I.nd, I.nd2, I.ax, I.len⟩
  · have := hS _ h; have := I0.r.lt; omega
  · have := hS _ h; have := I0.r.dlt (sub hne); omega
  · have := hS _ h; have := I0.q.lt; omega
  · have := hS _ h; have := I0.q.dlt (sub hne); omega
  · have := hS _ h; have := I0.x.lt e; omega
theorem TkI.q1 (I : TkI w wr g d g2 d2 AX nx cx ys s) (hc : Chg (fun k => k = g) wr w1) : RRAt w1 g2 d2 s :=
  I.q.chg2 hc (fun h => I.ne h.symm) (fun hne h => I.nd2 hne h)
theorem TkI.next (I : TkI w wr g d g2 d2 AX nx cx ys s) (c1 : Chg (fun k => k = g) wr w1) (r1 : RdrAt w1 g d s') (c2 : Chg (fun k => k = g2) w1 w2) (q2 : RRAt w2 g2 d2 s') (sub : s'.b.length ≤ s.b.length) : TkI w w2 g d g2 d2 AX nx cx ys s' := by
  have hsub : s'.b ≠ [] → s.b ≠ [] := fun h h0 => h (List.eq_nil_of_length_eq_zero (by rw [h0] at sub; simpa using sub))
  refine ⟨r1.chg2 c2 I.ne (fun hne => I.nd (hsub hne)), q2, (I.x.chg c1 (fun ad e => (I.ax ad e).1)).chg c2 (fun ad e => (I.ax ad e).2), (I.chg.step c1 (fun x hx => ?_)).step c2 (fun x hx => ?_), I.hg, I.hg2, I.ne, fun h => I.nd (hsub h), fun h => I.nd2 (hsub h), I.ax, Nat.le_trans sub I.len⟩
  · rw [show x = g from hx]; exact I.hg
  · rw [show x = g2 from hx]; exact I.hg2
theorem Left_n (h : RdrAt w g d s) : Calls Tryd.prog 17 #[.pointer (some ⟨g, 0, none⟩)] w fun e w' => e = .returned (.int .i64 s.b.length) ∧ Step nowhere w w' :=
  (Left_calls g d s w h).mono fun e w' ⟨he, hw⟩ => ⟨he, by rw [hw]; exact ⟨Chg.refl _ _⟩⟩
theorem Good_n (h : RdrAt w g d s) : Calls Tryd.prog 18 #[.pointer (some ⟨g, 0, none⟩)] w fun e w' => e = .returned (.bool (!s.e)) ∧ Step nowhere w w' :=
  (Good_calls g d s w h).mono fun e w' ⟨he, hw⟩ => ⟨he, by rw [hw]; exact ⟨Chg.refl _ _⟩⟩
theorem Whole_n (h : RdrAt w g d s) (hl : s.b.length ≤ 1000000000000) : Calls Tryd.prog 19 #[.pointer (some ⟨g, 0, none⟩)] w fun e w' => e = .returned (.bool (!s.e && decide (s.b = []))) ∧ Step nowhere w w' :=
  (Whole_calls g d s w h hl).mono fun e w' ⟨he, hw⟩ => ⟨he, by rw [hw]; exact ⟨Chg.refl _ _⟩⟩
theorem rrWhole_n (h : RRAt w g d s) (hl : s.b.length ≤ 1000000000000) : Calls Tryd.prog 20 #[.pointer (some ⟨g, 0, none⟩)] w fun e w' => e = .returned (.bool (!s.e && decide (s.b = []))) ∧ Step nowhere w w' :=
  (rrWhole_calls g d s w h hl).mono fun e w' ⟨he, hw⟩ => ⟨he, by rw [hw]; exact ⟨Chg.refl _ _⟩⟩
theorem same_n {A B : Option Addr} {n m c d : Nat} {xs : List UInt8} (hx : xs.length = n) (hy : xs.length = m) (hn : n ≤ 9223372036854775807) (ha : Rd w A (bs xs)) (hb : Rd w B (bs xs)) :
    Calls Tryd.prog 9 #[.slice A n c, .slice B m d] w fun e w' => e = .returned (.bool true) ∧ Step nowhere w w' :=
  (same_calls A B n m c d xs xs w hx hy hn ha hb).mono fun e w' ⟨he, k, hw⟩ => ⟨by rw [he, decide_eq_true rfl], by rw [hw]; exact ⟨(Chg.refl _ _).drewN k⟩⟩
end
theorem RS.raw_le (s : RS) (i : Int) : (s.raw i).2.b.length ≤ s.b.length := by
  unfold RS.raw
  split
  · exact Nat.zero_le _
  · show (s.b.drop i.toNat).length ≤ _
    rw [List.length_drop]; omega
theorem RS.row_le (s : RS) : s.row.2.b.length ≤ s.b.length := Nat.le_trans (RS.raw_le _ _) s.num_le
theorem RS.raw1_le (s : RS) (i : Int) : (s.raw i).1.length ≤ s.b.length := by
  unfold RS.raw
  split
  · exact Nat.zero_le _
  · show (s.b.take i.toNat).length ≤ _
    rw [List.length_take]; omega
theorem RS.row1_le (s : RS) : s.row.1.length ≤ s.b.length := Nat.le_trans (RS.raw1_le _ _) s.num_le
theorem rd_blk {w : World} {z : Nat} {t : TypeId} {cs : Array Value} {vs : List Value} (h : Blk w z t cs) (e : cs = vs.toArray) : Rd w (some ⟨z, 0, none⟩) vs := fun k u hk => by
  subst e
  refine ⟨_, rfl, ?_⟩
  rw [add_row, h.cell k]
  simpa using hk
def gg (g q : Nat) : Nat → Prop := fun x => x = g ∨ x = q
theorem run_pt3 (p q : Option Addr) (w : World) : (Instr.buildSlice 43 3 #[(0, .pointer p), (1, .pointer none), (2, .pointer q)]).run Tryd.prog w = .ok (.slice (some ⟨w.heap.size, 0, none⟩) 3 3) (w.alloc (.cells #[.pointer p, .pointer none, .pointer q] 36)) := by kernel_rfl
set_option maxRecDepth 100000 in
set_option maxHeartbeats 1600000 in
theorem octetTakes_calls (A : Option Addr) (n c : Nat) (xs : List UInt8) (B : Option Addr) (m cb : Nat) (ks : List Int) (C : Option Addr) (p cp : Nat) (ns : List Int) (w : World) (hT : TabOk w)
    (hr : Rd w A (bs xs)) (hn : xs.length = n) (hmax : n ≤ 9223372036854775807) (hk : Rd w B (is64 ks)) (hm : ks.length = m) (hmm : m ≤ 9223372036854775807) (hq : Rd w C (is64 ns)) (hp : ns.length = p) (hpm : p ≤ 9223372036854775807) :
    Calls Tryd.prog 3 #[.slice A n c, .slice B m cb, .slice C p cp] w fun e w' => e = .returned (.bool true) ∧ Chg nowhere w w' := by
  have HT := Lib.hid hT
  have HRA := Lib.hid hr
  have HN := Lib.hid hn
  have HK := Lib.hid hk
  have HM := Lib.hid hm
  have HQ := Lib.hid hq
  have HP := Lib.hid hp
  clear hT hr hn hk hm hq hp
  by_cases hbig : 4000 < n ∨ 200 < m ∨ p < m
  · have hc : 4000 < (n : Int) ∨ (¬ 4000 < (n : Int) ∧ 200 < (m : Int)) ∨ (¬ 4000 < (n : Int) ∧ ¬ 200 < (m : Int) ∧ (p : Int) < m) := by omega
    clear hbig
    rcases hc with g1 | ⟨g1, g2⟩ | ⟨g1, g2, g3⟩
    all_goals
      go_enter Tryd.func3, Tryd.ntmps3
      go_wp2_with fail
      go_ret
      exact ⟨rfl, Chg.refl _ _⟩
  · have g1 : ¬ 4000 < (n : Int) := by omega
    have g2 : ¬ 200 < (m : Int) := by omega
    have g3 : ¬ (p : Int) < m := by omega
    have HB0 : Hid (0 + n ≤ lim) := hid_lim (by omega)
    have HMM : Hid ((bs xs).length = n) := Lib.hid (by rw [bs_length]; exact HN.out)
    clear hbig
    go_enter Tryd.func3, Tryd.ntmps3
    go_wp2_with fail
    refine (roomy_calls A n c xs _ HRA.out HN.out (by omega)).mono ?_
    rintro e w1 ⟨AX, cx, rfl, HF⟩
    have hfr := HF.out
    have hncx : n ≤ cx := by
      rcases hfr.own.form with ⟨_, h4, _⟩ | ⟨_, _, _, _, h4, _⟩ <;> omega
    have hrx : Rd w1 AX (bs xs) := by
      have h1 := hfr.own.rd.take n
      rw [bs_take, List.take_left' HN.out] at h1
      exact h1
    have HRX := Lib.hid hrx
    clear hrx hfr
    go_wp2_with fail
    refine (NewReader_calls AX n cx xs _ HRX.out HN.out (by omega)).mono ?_
    rintro e w2 ⟨g, d, rfl, hr2, hc2, hg, hd⟩
    have HR2 : Hid (Rd w2 A (bs xs)) := Lib.hid ((HRA.out.later HF.out.chg).later hc2.out)
    go_wp2_with (at_builtin; refine wpList_append_many rfl (.tmp 40) (.tmp 41) elemB rfl (Nat.le_refl _) rfl (elem_nil _) rfl (HR2.out.alloc _) HMM (bs_one _) HB0 ?_)
    intro A3 c3 w3 hown3 hchg3 hA3
    have HO := Lib.hid hown3
    have HC : Hid (Chg nowhere w2 w3) := Lib.hid (((Chg.refl nowhere w2).alloc (.cells #[] 5)).trans hchg3 (fun x hx hT => by
      first | omega | (simp at hT; omega) | (obtain ⟨ad, e, h⟩ := hT; injection e with e; subst e; simp at h; omega)))
    have HA3 : Hid (∀ ad, A3 = some ad → w2.heap.size ≤ ad.block) := Lib.hid (by
      rintro ad rfl
      rcases hA3 with h | h <;> injection h with h <;> subst h <;> simp)
    clear hown3 hchg3 hA3
    go_wp2_with fail
    have HI : ∃ d2, Hid (TkI w (w3.alloc (.cells #[.slice A3 n c3, .bool false] 29)) g d w3.heap.size d2 AX (n + 1) cx (xs ++ [171]) ⟨xs, false⟩) := by
      have h1 := HO.out
      simp only [bs_append, List.nil_append] at h1
      obtain ⟨d2, hd2, hd3, hd4⟩ : ∃ d2, d2 ≠ w3.heap.size ∧ w2.heap.size ≤ d2 ∧ ∀ ad, A3 = some ad → ad.block = d2 := by
        rcases A3 with _ | ad
        · exact ⟨w3.heap.size + 1, by omega, by have := HC.out.size; omega, fun ad e => by cases e⟩
        · exact ⟨ad.block, by have := h1.lt rfl; omega, HA3.out ad rfl, fun ad' e => by injection e with e; rw [e]⟩
      have hsz := HC.out.size
      have hsz2 := hc2.out.size
      have hsz1 := HF.out.chg.size
      have hglt := hr2.out.lt
      refine ⟨d2, Lib.hid ⟨(hr2.out.chg HC.out (fun h => h) (fun h => h)).chg (S := nowhere) ((Chg.refl _ _).alloc _) (fun h => h) (fun h => h), ⟨⟨A3, n, c3, ?_, ?_, Blk.new _ _ _, h1.rd.alloc _, fun ad e _ => hd4 ad e⟩, hd2, fun h => by cases h⟩,
        ((HF.out.own.chg hc2.out (fun _ _ h => h)).chg HC.out (fun _ _ h => h)).alloc _, ((HF.out.chg.step hc2.out (fun _ h => h.elim)).step HC.out (fun _ h => h.elim)).alloc _, by omega, by omega, by omega, fun hne => ?_, fun _ => by omega, fun ad e => ?_, by show xs.length ≤ 4000; have := HN.out; omega⟩⟩
      · show n = xs.length
        have := HN.out; omega
      · rcases h1.form with ⟨_, h4, h5, _⟩ | ⟨_, _, _, _, h4, _⟩ <;> omega
      · have := hr2.out.dlt hne; omega
      · have h5 := HF.out.own.lt e
        exact ⟨by omega, by omega⟩
    obtain ⟨d2, HI⟩ := HI
    generalize w3.alloc (.cells #[.slice A3 n c3, .bool false] 29) = w4 at *
    generalize w3.heap.size = q2 at *
    obtain ⟨s0, hs0⟩ : ∃ s0 : RS, (⟨xs, false⟩ : RS) = s0 := ⟨_, rfl⟩
    rw [hs0] at HI
    clear hs0 HO HC HA3 hr2 hc2 hg hd HR2 HRX HMM HB0
    go_loopw [10] (fun iv wr => ∃ (i : Nat) (s : RS), i ≤ m ∧ iv = .int .i64 (i : Int) ∧ Hid (TkI w wr g d q2 d2 AX (n + 1) cx (xs ++ [171]) s)) (fun iv _ => m - (intOf iv).toNat)
    case atStart => exact ⟨0, s0, Nat.zero_le _, rfl, HI⟩
    case round =>
      clear HI
      obtain ⟨i, s, hi, rfl, HI⟩ := hrel
      by_cases hlt : i < m
      · have e1 : (i : Int) < m := by omega
        have hil : i < ks.length := by have := HM.out; omega
        obtain ⟨kv, hkv⟩ : ∃ kv, ks[i] = kv := ⟨_, rfl⟩
        obtain ⟨kad, hkad, hkc⟩ := (HK.out.later HI.out.chg) i (.int .i64 kv) (by simp [is64, hil, hkv])
        subst hkad
        have hl4 : s.b.length ≤ 4000 := HI.out.len
        clear hkv hil
        by_cases k1 : kv = 1
        · have f1 : (kv == 1) = true := by simp [k1]
          clear k1
          go_wp2_with fail
          refine (Num_calls g d s _ HI.out.r (by omega)).mono ?_
          rintro e w5 ⟨rfl, h5, c5⟩
          go_wp2_with fail
          refine (rrNum_calls q2 d2 s _ (HI.out.q1 c5.out) (by omega)).mono ?_
          rintro e w6 ⟨rfl, h6, c6⟩
          have HI2 := Lib.hid (HI.out.next c5.out h5.out c6.out h6.out s.num_le)
          clear h5 c5 h6 c6
          go_wp2_with fail
          obtain ⟨s2, hs2⟩ : ∃ x : RS, s.num.2 = x := ⟨_, rfl⟩
          rw [hs2] at HI2
          clear hs2
          obtain ⟨A9, n9, c9, hn9, hnc9, hb9, _⟩ := HI2.out.q.ex
          subst hn9
          have hB9 : HB w6 q2 29 #[.slice A9 s2.b.length c9, .bool s2.e] := ⟨hb9⟩
          have hl9 : s2.b.length ≤ 1000000000000 := by have := HI2.out.len; omega
          have hl99 : s2.b.length ≤ 9223372036854775807 := by omega
          clear hb9 hnc9
          go_wp2_with fail
          refine wp_region_N (nowhere) (by kernel_rfl) (fun wd _ _ => ?_)
          refine' takeH (i := 0) (v := _) rfl (by kernel_rfl) (by kernel_rfl) (by kernel_rfl) (fun _ _ _ h => h) (yields_of (by rfl) (fun w' _ => ?_)) inferInstance ?_
          rotate_left
          · (go_simp; try with_reducible rfl)
          try simp only [Act.put, List.setIfInBounds_toArray]; try simp only [List.set_cons_succ, List.set_cons_zero]
          refine' takeH (i := 1) (v := _) rfl (by kernel_rfl) (by kernel_rfl) (by kernel_rfl) (fun _ _ _ h => h) (yields_of (by rfl) (fun w' _ => ?_)) inferInstance ?_
          rotate_left
          · (go_simp; try with_reducible rfl)
          try simp only [Act.put, List.setIfInBounds_toArray]; try simp only [List.set_cons_succ, List.set_cons_zero]
          refine' takeH (i := 2) (v := _) rfl (by kernel_rfl) (by kernel_rfl) (by kernel_rfl) (fun _ _ _ h => h) (yields_of (by rfl) (fun w' _ => ?_)) inferInstance ?_
          rotate_left
          · (go_simp; try with_reducible rfl)
          try simp only [Act.put, List.setIfInBounds_toArray]; try simp only [List.set_cons_succ, List.set_cons_zero]
          refine' takeH (i := 3) (v := _) rfl (by kernel_rfl) (by kernel_rfl) (by kernel_rfl) (fun _ _ _ h => h) (yields_of (by rfl) (fun w' _ => ?_)) inferInstance ?_
          rotate_left
          · (go_simp; try with_reducible rfl)
          try simp only [Act.put, List.setIfInBounds_toArray]; try simp only [List.set_cons_succ, List.set_cons_zero]
          refine' takeH (i := 5) (v := _) rfl (by kernel_rfl) (by kernel_rfl) (by kernel_rfl) (fun _ _ _ h => h) (yields_of (by rfl) (fun w' _ => ?_)) inferInstance ?_
          rotate_left
          · (go_simp; try with_reducible rfl)
          try simp only [Act.put, List.setIfInBounds_toArray]; try simp only [List.set_cons_succ, List.set_cons_zero]
          refine' takeH (i := 6) (v := _) rfl (by kernel_rfl) (by kernel_rfl) (by kernel_rfl) (fun _ _ _ h => h) (yields_of (by rfl) (fun w' _ => ?_)) inferInstance ?_
          rotate_left
          · (go_simp; try with_reducible rfl)
          try simp only [Act.put, List.setIfInBounds_toArray]; try simp only [List.set_cons_succ, List.set_cons_zero]
          refine' takeH (i := 7) (v := _) rfl (by kernel_rfl) (by kernel_rfl) (by kernel_rfl) (fun _ _ _ h => h) (yields_of (by rfl) (fun w' _ => ?_)) inferInstance ?_
          rotate_left
          · (go_simp; try with_reducible rfl)
          try simp only [Act.put, List.setIfInBounds_toArray]; try simp only [List.set_cons_succ, List.set_cons_zero]
          refine' takeH (i := 8) (v := _) rfl (by kernel_rfl) (by kernel_rfl) (by kernel_rfl) (fun _ _ _ h => h) (yields_of (by rfl) (fun w' _ => ?_)) inferInstance ?_
          rotate_left
          · (first | ((with_reducible apply (ev_loadI (t := 3))); (exact rfl); (exact inferInstance); (exact inferInstance); (exact hipl)) | ((with_reducible apply ev_loadrow); (exact rfl); (exact inferInstance); (exact inferInstance); (first | (with_reducible assumption) | (with_reducible exact H32.size _) | kernel_rfl)) | ((with_reducible apply ev_loadcellN); (exact rfl); (exact inferInstance); (exact inferInstance); (exact rfl)) | ((with_reducible apply (ev_loadint (t := 3))); (exact rfl); (exact inferInstance); (exact inferInstance); (first | (with_reducible assumption) | omega)) | ((with_reducible apply (ev_loadbyte (t := 5))); (exact rfl); (exact inferInstance); (exact inferInstance); (first | (with_reducible assumption) | omega)) | (go_simp; try with_reducible rfl))
          try simp only [Act.put, List.setIfInBounds_toArray]; try simp only [List.set_cons_succ, List.set_cons_zero]
          refine' takeH (i := 9) (v := _) rfl (by kernel_rfl) (by kernel_rfl) (by kernel_rfl) (fun _ _ _ h => h) (yields_of (by rfl) (fun w' _ => ?_)) inferInstance ?_
          rotate_left
          · (go_simp; try with_reducible rfl)
          try simp only [Act.put, List.setIfInBounds_toArray]; try simp only [List.set_cons_succ, List.set_cons_zero]
          refine goH (i := 4) (by kernel_rfl) rfl (fun K_ hK_ => ?_)
          go_simp
          refine (Left_n (HI2.out.calm (stepN (w0 := w6) (w := wd)).chg).r).mono ?_
          rintro e w15 ⟨rfl, _⟩
          refine hK_.out _ _ inferInstance (fun _ => ?_)
          clear hK_ K_
          try simp only [Act.put, List.setIfInBounds_toArray]; try simp only [List.set_cons_succ, List.set_cons_zero]
          refine' takeH (i := 10) (v := _) rfl (by kernel_rfl) (by kernel_rfl) (by kernel_rfl) (fun _ _ _ h => h) (yields_of (by rfl) (fun w' _ => ?_)) inferInstance ?_
          rotate_left
          · (go_simp; try with_reducible rfl)
          try simp only [Act.put, List.setIfInBounds_toArray]; try simp only [List.set_cons_succ, List.set_cons_zero]
          refine' takeH (i := 11) (v := _) rfl (by kernel_rfl) (by kernel_rfl) (by kernel_rfl) (fun _ _ _ h => h) (yields_of (by rfl) (fun w' _ => ?_)) inferInstance ?_
          rotate_left
          · (go_simp; try with_reducible rfl)
          try simp only [Act.put, List.setIfInBounds_toArray]; try simp only [List.set_cons_succ, List.set_cons_zero]
          refine' takeH (i := 12) (v := _) rfl (by kernel_rfl) (by kernel_rfl) (by kernel_rfl) (fun _ _ _ h => h) (yields_of (by rfl) (fun w' _ => ?_)) inferInstance ?_
          rotate_left
          · (go_simp; try with_reducible rfl)
          try simp only [Act.put, List.setIfInBounds_toArray]; try simp only [List.set_cons_succ, List.set_cons_zero]
          refine' takeH (i := 13) (v := _) rfl (by kernel_rfl) (by kernel_rfl) (by kernel_rfl) (fun _ _ _ h => h) (yields_of (by rfl) (fun w' _ => ?_)) inferInstance ?_
          rotate_left
          · (go_simp; try with_reducible rfl)
          try simp only [Act.put, List.setIfInBounds_toArray]; try simp only [List.set_cons_succ, List.set_cons_zero]
          refine' takeH (i := 15) (v := _) rfl (by kernel_rfl) (by kernel_rfl) (by kernel_rfl) (fun _ _ _ h => h) (yields_of (by rfl) (fun w' _ => ?_)) inferInstance ?_
          rotate_left
          · (go_simp; try with_reducible rfl)
          try simp only [Act.put, List.setIfInBounds_toArray]; try simp only [List.set_cons_succ, List.set_cons_zero]
          refine' takeH (i := 16) (v := _) rfl (by kernel_rfl) (by kernel_rfl) (by kernel_rfl) (fun _ _ _ h => h) (yields_of (by rfl) (fun w' _ => ?_)) inferInstance ?_
          rotate_left
          · (go_simp; try with_reducible rfl)
          try simp only [Act.put, List.setIfInBounds_toArray]; try simp only [List.set_cons_succ, List.set_cons_zero]
          refine' takeH (i := 17) (v := _) rfl (by kernel_rfl) (by kernel_rfl) (by kernel_rfl) (fun _ _ _ h => h) (yields_of (by rfl) (fun w' _ => ?_)) inferInstance ?_
          rotate_left
          · (go_simp; try with_reducible rfl)
          try simp only [Act.put, List.setIfInBounds_toArray]; try simp only [List.set_cons_succ, List.set_cons_zero]
          refine' takeH (i := 18) (v := _) rfl (by kernel_rfl) (by kernel_rfl) (by kernel_rfl) (fun _ _ _ h => h) (yields_of (by rfl) (fun w' _ => ?_)) inferInstance ?_
          rotate_left
          · (first | ((with_reducible apply (ev_loadI (t := 3))); (exact rfl); (exact inferInstance); (exact inferInstance); (exact hipl)) | ((with_reducible apply ev_loadrow); (exact rfl); (exact inferInstance); (exact inferInstance); (first | (with_reducible assumption) | (with_reducible exact H32.size _) | kernel_rfl)) | ((with_reducible apply ev_loadcellN); (exact rfl); (exact inferInstance); (exact inferInstance); (exact rfl)) | ((with_reducible apply (ev_loadint (t := 3))); (exact rfl); (exact inferInstance); (exact inferInstance); (first | (with_reducible assumption) | omega)) | ((with_reducible apply (ev_loadbyte (t := 5))); (exact rfl); (exact inferInstance); (exact inferInstance); (first | (with_reducible assumption) | omega)) | (go_simp; try with_reducible rfl))
          try simp only [Act.put, List.setIfInBounds_toArray]; try simp only [List.set_cons_succ, List.set_cons_zero]
          refine goH (i := 14) (by kernel_rfl) rfl (fun K_ hK_ => ?_)
          go_simp
          refine (Good_n (HI2.out.calm (stepN (w0 := w6) (w := w15)).chg).r).mono ?_
          rintro e w16 ⟨rfl, _⟩
          refine hK_.out _ _ inferInstance (fun _ => ?_)
          clear hK_ K_
          try simp only [Act.put, List.setIfInBounds_toArray]; try simp only [List.set_cons_succ, List.set_cons_zero]
          refine' takeH (i := 19) (v := _) rfl (by kernel_rfl) (by kernel_rfl) (by kernel_rfl) (fun _ _ _ h => h) (yields_of (by rfl) (fun w' _ => ?_)) inferInstance ?_
          rotate_left
          · (go_simp; try with_reducible rfl)
          try simp only [Act.put, List.setIfInBounds_toArray]; try simp only [List.set_cons_succ, List.set_cons_zero]
          refine' takeH (i := 20) (v := _) rfl (by kernel_rfl) (by kernel_rfl) (by kernel_rfl) (fun _ _ _ h => h) (yields_of (by rfl) (fun w' _ => ?_)) inferInstance ?_
          rotate_left
          · (go_simp; try with_reducible rfl)
          try simp only [Act.put, List.setIfInBounds_toArray]; try simp only [List.set_cons_succ, List.set_cons_zero]
          refine' takeH (i := 21) (v := _) rfl (by kernel_rfl) (by kernel_rfl) (by kernel_rfl) (fun _ _ _ h => h) (yields_of (by rfl) (fun w' _ => ?_)) inferInstance ?_
          rotate_left
          · (go_simp; try with_reducible rfl)
          try simp only [Act.put, List.setIfInBounds_toArray]; try simp only [List.set_cons_succ, List.set_cons_zero]
          refine' takeH (i := 22) (v := _) rfl (by kernel_rfl) (by kernel_rfl) (by kernel_rfl) (fun _ _ _ h => h) (yields_of (by rfl) (fun w' _ => ?_)) inferInstance ?_
          rotate_left
          · (go_simp; try with_reducible rfl)
          try simp only [Act.put, List.setIfInBounds_toArray]; try simp only [List.set_cons_succ, List.set_cons_zero]
          refine' takeH (i := 24) (v := _) rfl (by kernel_rfl) (by kernel_rfl) (by kernel_rfl) (fun _ _ _ h => h) (yields_of (by rfl) (fun w' _ => ?_)) inferInstance ?_
          rotate_left
          · (go_simp; try with_reducible rfl)
          try simp only [Act.put, List.setIfInBounds_toArray]; try simp only [List.set_cons_succ, List.set_cons_zero]
          refine goH (i := 23) (by kernel_rfl) rfl (fun K_ hK_ => ?_)
          go_simp
          refine (Whole_n (HI2.out.calm (stepN (w0 := w6) (w := w16)).chg).r hl9).mono ?_
          rintro e w17 ⟨rfl, _⟩
          refine hK_.out _ _ inferInstance (fun _ => ?_)
          clear hK_ K_
          try simp only [Act.put, List.setIfInBounds_toArray]; try simp only [List.set_cons_succ, List.set_cons_zero]
          refine goH (i := 25) (by kernel_rfl) rfl (fun K_ hK_ => ?_)
          go_simp
          refine (rrWhole_n (HI2.out.calm (stepN (w0 := w6) (w := w17)).chg).q hl9).mono ?_
          rintro e w18 ⟨rfl, _⟩
          refine hK_.out _ _ inferInstance (fun _ => ?_)
          clear hK_ K_
          try simp only [Act.put, List.setIfInBounds_toArray]; try simp only [List.set_cons_succ, List.set_cons_zero]
          refine' takeH (i := 26) (v := _) rfl (by kernel_rfl) (by kernel_rfl) (by kernel_rfl) (fun _ _ _ h => h) (yields_of (by rfl) (fun w' _ => ?_)) inferInstance ?_
          rotate_left
          · (go_simp; try with_reducible rfl)
          try simp only [Act.put, List.setIfInBounds_toArray]; try simp only [List.set_cons_succ, List.set_cons_zero]
          refine' takeH (i := 27) (v := _) rfl (by kernel_rfl) (by kernel_rfl) (by kernel_rfl) (fun _ _ _ h => h) (yields_of (by rfl) (fun w' _ => ?_)) inferInstance ?_
          rotate_left
          · (go_simp; try with_reducible rfl)
          try simp only [Act.put, List.setIfInBounds_toArray]; try simp only [List.set_cons_succ, List.set_cons_zero]
          refine wpAnyH_done (by kernel_rfl) ?_ _
          go_wp2_with fail
          exact ⟨⟨i + 1, s2, by omega, by go_num, Lib.hid (HI2.out.calm (stepN (w0 := w6) (w := w18)).chg)⟩, by simp [intOf]; omega⟩
        · have f1 : (kv == 1) = false := by simp [k1]
          clear k1
          by_cases k2 : kv = 2
          · have f2 : (kv == 2) = true := by simp [k2]
            clear k2
            go_wp2_with fail
            refine (rBytes_calls g d s _ HI.out.r (by omega)).mono ?_
            rintro e w5 ⟨A5, n5, cc5, rfl, hn5, ho5, h5, c5, hA5⟩
            go_wp2_with fail
            refine (rrBytes_calls q2 d2 s _ (HI.out.q1 c5.out) (by omega)).mono ?_
            rintro e w6 ⟨A6, n6, cc6, rfl, hn6, ho6, h6, c6, hA6⟩
            have HI2 := Lib.hid (HI.out.next c5.out h5.out c6.out h6.out s.row_le)
            have HO5 : Hid (Own w6 5 1 A5 n5 cc5 (bs s.row.1)) := Lib.hid (ho5.out.chg c6.out (fun ad e h => by
              have h1 := hA5.out ad e
              have h2 := HI.out.q.lt
              rw [show ad.block = q2 from h] at h1
              omega))
            have hn5m : n5 ≤ 9223372036854775807 := by have := hn5.out; have := s.row1_le; omega
            have HR6 := Lib.hid ho6.out.rd
            clear h5 c5 h6 c6 ho5 ho6
            go_wp2_with fail
            refine (same_n hn5.out.symm hn6.out.symm hn5m HO5.out.rd HR6.out).mono ?_
            rintro e w7 ⟨rfl, st7⟩
            have HO7 : Hid (Own w7 5 1 A5 n5 cc5 (bs s.row.1)) := Lib.hid (HO5.out.chg st7.chg (fun _ _ h => h))
            have HI3 := Lib.hid (HI2.out.calm st7.chg)
            clear HI2 st7 HO5 HR6
            go_wp2_with fail
            refine (spoil_calls A5 n5 cc5 _ _ HO7.out (by have := hn5.out; have := s.row1_le; omega)).mono ?_
            rintro e w8 ⟨rfl, c8⟩
            have HI2 := Lib.hid (HI.out.far HI3.out (fun hne h0 => hne (List.eq_nil_of_length_eq_zero (by have := s.row_le; rw [h0] at this; simpa using this))) c8.out (fun x hx => by
              obtain ⟨ad, e, rfl⟩ := hx
              exact hA5.out ad e))
            clear HI3 c8 HO7
            obtain ⟨s2, hs2⟩ : ∃ x : RS, s.row.2 = x := ⟨_, rfl⟩
            rw [hs2] at HI2
            clear hs2
            obtain ⟨A9, n9, c9, hn9, hnc9, hb9, _⟩ := HI2.out.q.ex
            subst hn9
            have hB9 : HB w8 q2 29 #[.slice A9 s2.b.length c9, .bool s2.e] := ⟨hb9⟩
            have hl9 : s2.b.length ≤ 1000000000000 := by have := HI2.out.len; omega
            have hl99 : s2.b.length ≤ 9223372036854775807 := by omega
            clear hb9 hnc9
            go_wp2_with fail
            refine wp_region_N (nowhere) (by kernel_rfl) (fun wd _ _ => ?_)
            refine' takeH (i := 0) (v := _) rfl (by kernel_rfl) (by kernel_rfl) (by kernel_rfl) (fun _ _ _ h => h) (yields_of (by rfl) (fun w' _ => ?_)) inferInstance ?_
            rotate_left
            · (go_simp; try with_reducible rfl)
            try simp only [Act.put, List.setIfInBounds_toArray]; try simp only [List.set_cons_succ, List.set_cons_zero]
            refine' takeH (i := 1) (v := _) rfl (by kernel_rfl) (by kernel_rfl) (by kernel_rfl) (fun _ _ _ h => h) (yields_of (by rfl) (fun w' _ => ?_)) inferInstance ?_
            rotate_left
            · (go_simp; try with_reducible rfl)
            try simp only [Act.put, List.setIfInBounds_toArray]; try simp only [List.set_cons_succ, List.set_cons_zero]
            refine' takeH (i := 2) (v := _) rfl (by kernel_rfl) (by kernel_rfl) (by kernel_rfl) (fun _ _ _ h => h) (yields_of (by rfl) (fun w' _ => ?_)) inferInstance ?_
            rotate_left
            · (go_simp; try with_reducible rfl)
            try simp only [Act.put, List.setIfInBounds_toArray]; try simp only [List.set_cons_succ, List.set_cons_zero]
            refine' takeH (i := 3) (v := _) rfl (by kernel_rfl) (by kernel_rfl) (by kernel_rfl) (fun _ _ _ h => h) (yields_of (by rfl) (fun w' _ => ?_)) inferInstance ?_
            rotate_left
            · (go_simp; try with_reducible rfl)
            try simp only [Act.put, List.setIfInBounds_toArray]; try simp only [List.set_cons_succ, List.set_cons_zero]
            refine' takeH (i := 5) (v := _) rfl (by kernel_rfl) (by kernel_rfl) (by kernel_rfl) (fun _ _ _ h => h) (yields_of (by rfl) (fun w' _ => ?_)) inferInstance ?_
            rotate_left
            · (go_simp; try with_reducible rfl)
            try simp only [Act.put, List.setIfInBounds_toArray]; try simp only [List.set_cons_succ, List.set_cons_zero]
            refine' takeH (i := 6) (v := _) rfl (by kernel_rfl) (by kernel_rfl) (by kernel_rfl) (fun _ _ _ h => h) (yields_of (by rfl) (fun w' _ => ?_)) inferInstance ?_
            rotate_left
            · (go_simp; try with_reducible rfl)
            try simp only [Act.put, List.setIfInBounds_toArray]; try simp only [List.set_cons_succ, List.set_cons_zero]
            refine' takeH (i := 7) (v := _) rfl (by kernel_rfl) (by kernel_rfl) (by kernel_rfl) (fun _ _ _ h => h) (yields_of (by rfl) (fun w' _ => ?_)) inferInstance ?_
            rotate_left
            · (go_simp; try with_reducible rfl)
            try simp only [Act.put, List.setIfInBounds_toArray]; try simp only [List.set_cons_succ, List.set_cons_zero]
            refine' takeH (i := 8) (v := _) rfl (by kernel_rfl) (by kernel_rfl) (by kernel_rfl) (fun _ _ _ h => h) (yields_of (by rfl) (fun w' _ => ?_)) inferInstance ?_
            rotate_left
            · (first | ((with_reducible apply (ev_loadI (t := 3))); (exact rfl); (exact inferInstance); (exact inferInstance); (exact hipl)) | ((with_reducible apply ev_loadrow); (exact rfl); (exact inferInstance); (exact inferInstance); (first | (with_reducible assumption) | (with_reducible exact H32.size _) | kernel_rfl)) | ((with_reducible apply ev_loadcellN); (exact rfl); (exact inferInstance); (exact inferInstance); (exact rfl)) | ((with_reducible apply (ev_loadint (t := 3))); (exact rfl); (exact inferInstance); (exact inferInstance); (first | (with_reducible assumption) | omega)) | ((with_reducible apply (ev_loadbyte (t := 5))); (exact rfl); (exact inferInstance); (exact inferInstance); (first | (with_reducible assumption) | omega)) | (go_simp; try with_reducible rfl))
            try simp only [Act.put, List.setIfInBounds_toArray]; try simp only [List.set_cons_succ, List.set_cons_zero]
            refine' takeH (i := 9) (v := _) rfl (by kernel_rfl) (by kernel_rfl) (by kernel_rfl) (fun _ _ _ h => h) (yields_of (by rfl) (fun w' _ => ?_)) inferInstance ?_
            rotate_left
            · (go_simp; try with_reducible rfl)
            try simp only [Act.put, List.setIfInBounds_toArray]; try simp only [List.set_cons_succ, List.set_cons_zero]
            refine goH (i := 4) (by kernel_rfl) rfl (fun K_ hK_ => ?_)
            go_simp
            refine (Left_n (HI2.out.calm (stepN (w0 := w8) (w := wd)).chg).r).mono ?_
            rintro e w15 ⟨rfl, _⟩
            refine hK_.out _ _ inferInstance (fun _ => ?_)
            clear hK_ K_
            try simp only [Act.put, List.setIfInBounds_toArray]; try simp only [List.set_cons_succ, List.set_cons_zero]
            refine' takeH (i := 10) (v := _) rfl (by kernel_rfl) (by kernel_rfl) (by kernel_rfl) (fun _ _ _ h => h) (yields_of (by rfl) (fun w' _ => ?_)) inferInstance ?_
            rotate_left
            · (go_simp; try with_reducible rfl)
            try simp only [Act.put, List.setIfInBounds_toArray]; try simp only [List.set_cons_succ, List.set_cons_zero]
            refine' takeH (i := 11) (v := _) rfl (by kernel_rfl) (by kernel_rfl) (by kernel_rfl) (fun _ _ _ h => h) (yields_of (by rfl) (fun w' _ => ?_)) inferInstance ?_
            rotate_left
            · (go_simp; try with_reducible rfl)
            try simp only [Act.put, List.setIfInBounds_toArray]; try simp only [List.set_cons_succ, List.set_cons_zero]
            refine' takeH (i := 12) (v := _) rfl (by kernel_rfl) (by kernel_rfl) (by kernel_rfl) (fun _ _ _ h => h) (yields_of (by rfl) (fun w' _ => ?_)) inferInstance ?_
            rotate_left
            · (go_simp; try with_reducible rfl)
            try simp only [Act.put, List.setIfInBounds_toArray]; try simp only [List.set_cons_succ, List.set_cons_zero]
            refine' takeH (i := 13) (v := _) rfl (by kernel_rfl) (by kernel_rfl) (by kernel_rfl) (fun _ _ _ h => h) (yields_of (by rfl) (fun w' _ => ?_)) inferInstance ?_
            rotate_left
            · (go_simp; try with_reducible rfl)
            try simp only [Act.put, List.setIfInBounds_toArray]; try simp only [List.set_cons_succ, List.set_cons_zero]
            refine' takeH (i := 15) (v := _) rfl (by kernel_rfl) (by kernel_rfl) (by kernel_rfl) (fun _ _ _ h => h) (yields_of (by rfl) (fun w' _ => ?_)) inferInstance ?_
            rotate_left
            · (go_simp; try with_reducible rfl)
            try simp only [Act.put, List.setIfInBounds_toArray]; try simp only [List.set_cons_succ, List.set_cons_zero]
            refine' takeH (i := 16) (v := _) rfl (by kernel_rfl) (by kernel_rfl) (by kernel_rfl) (fun _ _ _ h => h) (yields_of (by rfl) (fun w' _ => ?_)) inferInstance ?_
            rotate_left
            · (go_simp; try with_reducible rfl)
            try simp only [Act.put, List.setIfInBounds_toArray]; try simp only [List.set_cons_succ, List.set_cons_zero]
            refine' takeH (i := 17) (v := _) rfl (by kernel_rfl) (by kernel_rfl) (by kernel_rfl) (fun _ _ _ h => h) (yields_of (by rfl) (fun w' _ => ?_)) inferInstance ?_
            rotate_left
            · (go_simp; try with_reducible rfl)
            try simp only [Act.put, List.setIfInBounds_toArray]; try simp only [List.set_cons_succ, List.set_cons_zero]
            refine' takeH (i := 18) (v := _) rfl (by kernel_rfl) (by kernel_rfl) (by kernel_rfl) (fun _ _ _ h => h) (yields_of (by rfl) (fun w' _ => ?_)) inferInstance ?_
            rotate_left
            · (first | ((with_reducible apply (ev_loadI (t := 3))); (exact rfl); (exact inferInstance); (exact inferInstance); (exact hipl)) | ((with_reducible apply ev_loadrow); (exact rfl); (exact inferInstance); (exact inferInstance); (first | (with_reducible assumption) | (with_reducible exact H32.size _) | kernel_rfl)) | ((with_reducible apply ev_loadcellN); (exact rfl); (exact inferInstance); (exact inferInstance); (exact rfl)) | ((with_reducible apply (ev_loadint (t := 3))); (exact rfl); (exact inferInstance); (exact inferInstance); (first | (with_reducible assumption) | omega)) | ((with_reducible apply (ev_loadbyte (t := 5))); (exact rfl); (exact inferInstance); (exact inferInstance); (first | (with_reducible assumption) | omega)) | (go_simp; try with_reducible rfl))
            try simp only [Act.put, List.setIfInBounds_toArray]; try simp only [List.set_cons_succ, List.set_cons_zero]
            refine goH (i := 14) (by kernel_rfl) rfl (fun K_ hK_ => ?_)
            go_simp
            refine (Good_n (HI2.out.calm (stepN (w0 := w8) (w := w15)).chg).r).mono ?_
            rintro e w16 ⟨rfl, _⟩
            refine hK_.out _ _ inferInstance (fun _ => ?_)
            clear hK_ K_
            try simp only [Act.put, List.setIfInBounds_toArray]; try simp only [List.set_cons_succ, List.set_cons_zero]
            refine' takeH (i := 19) (v := _) rfl (by kernel_rfl) (by kernel_rfl) (by kernel_rfl) (fun _ _ _ h => h) (yields_of (by rfl) (fun w' _ => ?_)) inferInstance ?_
            rotate_left
            · (go_simp; try with_reducible rfl)
            try simp only [Act.put, List.setIfInBounds_toArray]; try simp only [List.set_cons_succ, List.set_cons_zero]
            refine' takeH (i := 20) (v := _) rfl (by kernel_rfl) (by kernel_rfl) (by kernel_rfl) (fun _ _ _ h => h) (yields_of (by rfl) (fun w' _ => ?_)) inferInstance ?_
            rotate_left
            · (go_simp; try with_reducible rfl)
            try simp only [Act.put, List.setIfInBounds_toArray]; try simp only [List.set_cons_succ, List.set_cons_zero]
            refine' takeH (i := 21) (v := _) rfl (by kernel_rfl) (by kernel_rfl) (by kernel_rfl) (fun _ _ _ h => h) (yields_of (by rfl) (fun w' _ => ?_)) inferInstance ?_
            rotate_left
            · (go_simp; try with_reducible rfl)
            try simp only [Act.put, List.setIfInBounds_toArray]; try simp only [List.set_cons_succ, List.set_cons_zero]
            refine' takeH (i := 22) (v := _) rfl (by kernel_rfl) (by kernel_rfl) (by kernel_rfl) (fun _ _ _ h => h) (yields_of (by rfl) (fun w' _ => ?_)) inferInstance ?_
            rotate_left
            · (go_simp; try with_reducible rfl)
            try simp only [Act.put, List.setIfInBounds_toArray]; try simp only [List.set_cons_succ, List.set_cons_zero]
            refine' takeH (i := 24) (v := _) rfl (by kernel_rfl) (by kernel_rfl) (by kernel_rfl) (fun _ _ _ h => h) (yields_of (by rfl) (fun w' _ => ?_)) inferInstance ?_
            rotate_left
            · (go_simp; try with_reducible rfl)
            try simp only [Act.put, List.setIfInBounds_toArray]; try simp only [List.set_cons_succ, List.set_cons_zero]
            refine goH (i := 23) (by kernel_rfl) rfl (fun K_ hK_ => ?_)
            go_simp
            refine (Whole_n (HI2.out.calm (stepN (w0 := w8) (w := w16)).chg).r hl9).mono ?_
            rintro e w17 ⟨rfl, _⟩
            refine hK_.out _ _ inferInstance (fun _ => ?_)
            clear hK_ K_
            try simp only [Act.put, List.setIfInBounds_toArray]; try simp only [List.set_cons_succ, List.set_cons_zero]
            refine goH (i := 25) (by kernel_rfl) rfl (fun K_ hK_ => ?_)
            go_simp
            refine (rrWhole_n (HI2.out.calm (stepN (w0 := w8) (w := w17)).chg).q hl9).mono ?_
            rintro e w18 ⟨rfl, _⟩
            refine hK_.out _ _ inferInstance (fun _ => ?_)
            clear hK_ K_
            try simp only [Act.put, List.setIfInBounds_toArray]; try simp only [List.set_cons_succ, List.set_cons_zero]
            refine' takeH (i := 26) (v := _) rfl (by kernel_rfl) (by kernel_rfl) (by kernel_rfl) (fun _ _ _ h => h) (yields_of (by rfl) (fun w' _ => ?_)) inferInstance ?_
            rotate_left
            · (go_simp; try with_reducible rfl)
            try simp only [Act.put, List.setIfInBounds_toArray]; try simp only [List.set_cons_succ, List.set_cons_zero]
            refine' takeH (i := 27) (v := _) rfl (by kernel_rfl) (by kernel_rfl) (by kernel_rfl) (fun _ _ _ h => h) (yields_of (by rfl) (fun w' _ => ?_)) inferInstance ?_
            rotate_left
            · (go_simp; try with_reducible rfl)
            try simp only [Act.put, List.setIfInBounds_toArray]; try simp only [List.set_cons_succ, List.set_cons_zero]
            refine wpAnyH_done (by kernel_rfl) ?_ _
            go_wp2_with fail
            exact ⟨⟨i + 1, s2, by omega, by go_num, Lib.hid (HI2.out.calm (stepN (w0 := w8) (w := w18)).chg)⟩, by simp [intOf]; omega⟩
          · have f2 : (kv == 2) = false := by simp [k2]
            clear k2
            by_cases k3 : kv = 3
            · have f3 : (kv == 3) = true := by simp [k3]
              clear k3
              have hpn : ns.length = p := HP.out
              have hilp : i < p := by omega
              have hipl : i < ns.length := by omega
              have hqR : HR wr C (i64l ns) := ⟨HQ.out.later HI.out.chg⟩
              have hoT : OffR (gg g q2) C (i64l ns) := ⟨fun hne ad e hk => by
                have h1 := rd_lt HQ.out hne e
                have h2 := HI.out.hg
                have h3 := HI.out.hg2
                rcases hk with hk | hk <;> omega⟩
              have sb1 : ∀ wd : World, Sub wd (only g) (gg g q2) := fun _ => ⟨fun k _ hk => .inl hk⟩
              have sb2 : ∀ wd : World, Sub wd (only q2) (gg g q2) := fun _ => ⟨fun k _ hk => .inr hk⟩
              go_wp2_with fail
              refine wp_region_N ((gg g q2)) (by kernel_rfl) (fun wd _ _ => ?_)
              refine' takeH (i := 0) (v := _) rfl (by kernel_rfl) (by kernel_rfl) (by kernel_rfl) (fun _ _ _ h => h) (yields_of (by rfl) (fun w' _ => ?_)) inferInstance ?_
              rotate_left
              · (go_simp; try with_reducible rfl)
              try simp only [Act.put, List.setIfInBounds_toArray]; try simp only [List.set_cons_succ, List.set_cons_zero]
              refine' takeH (i := 1) (v := _) rfl (by kernel_rfl) (by kernel_rfl) (by kernel_rfl) (fun _ _ _ h => h) (yields_of (by rfl) (fun w' _ => ?_)) inferInstance ?_
              rotate_left
              · (go_simp; try with_reducible rfl)
              try simp only [Act.put, List.setIfInBounds_toArray]; try simp only [List.set_cons_succ, List.set_cons_zero]
              refine' takeH (i := 2) (v := _) rfl (by kernel_rfl) (by kernel_rfl) (by kernel_rfl) (fun _ _ _ h => h) (yields_of (by rfl) (fun w' _ => ?_)) inferInstance ?_
              rotate_left
              · (go_simp; try with_reducible rfl)
              try simp only [Act.put, List.setIfInBounds_toArray]; try simp only [List.set_cons_succ, List.set_cons_zero]
              refine' takeH (i := 3) (v := _) rfl (by kernel_rfl) (by kernel_rfl) (by kernel_rfl) (fun _ _ _ h => h) (yields_of (by rfl) (fun w' _ => ?_)) inferInstance ?_
              rotate_left
              · (first | ((with_reducible apply ev_indexI); (exact rfl); (exact rfl); (exact inferInstance); (exact inferInstance); (exact hpn); (exact hilp)) | ((with_reducible apply ev_indexSN); (exact rfl); (exact rfl); (exact inferInstance); (first | (with_reducible assumption) | omega)) | ((with_reducible apply ev_indexS); (exact rfl); (exact rfl); (exact inferInstance); (first | (with_reducible assumption) | omega); (first | (with_reducible assumption) | omega)) | ((with_reducible apply ev_indexH'); (exact rfl); (exact rfl); (exact inferInstance); (exact inferInstance); (first | (with_reducible assumption) | omega); (first | (with_reducible assumption) | omega); (first | (with_reducible assumption) | omega)) | ((with_reducible apply ev_indexH); (exact rfl); (exact rfl); (exact inferInstance); (exact inferInstance); (first | (with_reducible assumption) | omega); (first | (with_reducible assumption) | omega)) | (go_simp; try with_reducible rfl))
              try simp only [Act.put, List.setIfInBounds_toArray]; try simp only [List.set_cons_succ, List.set_cons_zero]
              refine' takeH (i := 4) (v := _) rfl (by kernel_rfl) (by kernel_rfl) (by kernel_rfl) (fun _ _ _ h => h) (yields_of (by rfl) (fun w' _ => ?_)) inferInstance ?_
              rotate_left
              · (first | ((with_reducible apply (ev_loadI (t := 3))); (exact rfl); (exact inferInstance); (exact inferInstance); (exact hipl)) | ((with_reducible apply ev_loadrow); (exact rfl); (exact inferInstance); (exact inferInstance); (first | (with_reducible assumption) | (with_reducible exact H32.size _) | kernel_rfl)) | ((with_reducible apply ev_loadcellN); (exact rfl); (exact inferInstance); (exact inferInstance); (exact rfl)) | ((with_reducible apply (ev_loadint (t := 3))); (exact rfl); (exact inferInstance); (exact inferInstance); (first | (with_reducible assumption) | omega)) | ((with_reducible apply (ev_loadbyte (t := 5))); (exact rfl); (exact inferInstance); (exact inferInstance); (first | (with_reducible assumption) | omega)) | (go_simp; try with_reducible rfl))
              try simp only [Act.put, List.setIfInBounds_toArray]; try simp only [List.set_cons_succ, List.set_cons_zero]
              refine' takeH (i := 6) (v := _) rfl (by kernel_rfl) (by kernel_rfl) (by kernel_rfl) (fun _ _ _ h => h) (yields_of (by rfl) (fun w' _ => ?_)) inferInstance ?_
              rotate_left
              · (go_simp; try with_reducible rfl)
              try simp only [Act.put, List.setIfInBounds_toArray]; try simp only [List.set_cons_succ, List.set_cons_zero]
              refine' takeH (i := 7) (v := _) rfl (by kernel_rfl) (by kernel_rfl) (by kernel_rfl) (fun _ _ _ h => h) (yields_of (by rfl) (fun w' _ => ?_)) inferInstance ?_
              rotate_left
              · (go_simp; try with_reducible rfl)
              try simp only [Act.put, List.setIfInBounds_toArray]; try simp only [List.set_cons_succ, List.set_cons_zero]
              refine' takeH (i := 8) (v := _) rfl (by kernel_rfl) (by kernel_rfl) (by kernel_rfl) (fun _ _ _ h => h) (yields_of (by rfl) (fun w' _ => ?_)) inferInstance ?_
              rotate_left
              · (go_simp; try with_reducible rfl)
              try simp only [Act.put, List.setIfInBounds_toArray]; try simp only [List.set_cons_succ, List.set_cons_zero]
              refine' takeH (i := 9) (v := _) rfl (by kernel_rfl) (by kernel_rfl) (by kernel_rfl) (fun _ _ _ h => h) (yields_of (by rfl) (fun w' _ => ?_)) inferInstance ?_
              rotate_left
              · (first | ((with_reducible apply ev_indexI); (exact rfl); (exact rfl); (exact inferInstance); (exact inferInstance); (exact hpn); (exact hilp)) | ((with_reducible apply ev_indexSN); (exact rfl); (exact rfl); (exact inferInstance); (first | (with_reducible assumption) | omega)) | ((with_reducible apply ev_indexS); (exact rfl); (exact rfl); (exact inferInstance); (first | (with_reducible assumption) | omega); (first | (with_reducible assumption) | omega)) | ((with_reducible apply ev_indexH'); (exact rfl); (exact rfl); (exact inferInstance); (exact inferInstance); (first | (with_reducible assumption) | omega); (first | (with_reducible assumption) | omega); (first | (with_reducible assumption) | omega)) | ((with_reducible apply ev_indexH); (exact rfl); (exact rfl); (exact inferInstance); (exact inferInstance); (first | (with_reducible assumption) | omega); (first | (with_reducible assumption) | omega)) | (go_simp; try with_reducible rfl))
              try simp only [Act.put, List.setIfInBounds_toArray]; try simp only [List.set_cons_succ, List.set_cons_zero]
              refine' takeH (i := 10) (v := _) rfl (by kernel_rfl) (by kernel_rfl) (by kernel_rfl) (fun _ _ _ h => h) (yields_of (by rfl) (fun w' _ => ?_)) inferInstance ?_
              rotate_left
              · (first | ((with_reducible apply (ev_loadI (t := 3))); (exact rfl); (exact inferInstance); (exact inferInstance); (exact hipl)) | ((with_reducible apply ev_loadrow); (exact rfl); (exact inferInstance); (exact inferInstance); (first | (with_reducible assumption) | (with_reducible exact H32.size _) | kernel_rfl)) | ((with_reducible apply ev_loadcellN); (exact rfl); (exact inferInstance); (exact inferInstance); (exact rfl)) | ((with_reducible apply (ev_loadint (t := 3))); (exact rfl); (exact inferInstance); (exact inferInstance); (first | (with_reducible assumption) | omega)) | ((with_reducible apply (ev_loadbyte (t := 5))); (exact rfl); (exact inferInstance); (exact inferInstance); (first | (with_reducible assumption) | omega)) | (go_simp; try with_reducible rfl))
              try simp only [Act.put, List.setIfInBounds_toArray]; try simp only [List.set_cons_succ, List.set_cons_zero]
              refine goH (i := 5) (by kernel_rfl) rfl (fun K_ hK_ => ?_)
              go_simp
              have HId := Lib.hid (HI.out.calm (stepN (w0 := wr) (w := wd)).chg)
              refine (Raw_calls g d s (iget ns i) wd HId.out.r (by omega)).mono ?_
              rintro e w5 ⟨A5, n5, cc5, rfl, hn5, ho5, h5, c5, hA5⟩
              have st5 : Step (only g) wd w5 := ⟨c5.out⟩
              refine hK_.out _ _ inferInstance (fun _ => ?_)
              clear hK_ K_
              try simp only [Act.put, List.setIfInBounds_toArray]; try simp only [List.set_cons_succ, List.set_cons_zero]
              refine goH (i := 11) (by kernel_rfl) rfl (fun K_ hK_ => ?_)
              go_simp
              refine (rrRaw_calls q2 d2 s (iget ns i) w5 (HId.out.q1 c5.out) (by omega)).mono ?_
              rintro e w6 ⟨A6, n6, cc6, rfl, hn6, ho6, h6, c6, hA6⟩
              have st6 : Step (only q2) w5 w6 := ⟨c6.out⟩
              have HI2 := Lib.hid (HId.out.next c5.out h5.out c6.out h6.out (s.raw_le _))
              have HO5 : Hid (Own w6 5 1 A5 n5 cc5 (bs (s.raw (iget ns i)).1)) := Lib.hid (ho5.out.chg c6.out (fun ad e h => by
                have h1 := hA5.out ad e
                have h2 := HId.out.q.lt
                rw [show ad.block = q2 from h] at h1
                omega))
              refine hK_.out _ _ inferInstance (fun _ => ?_)
              clear hK_ K_
              try simp only [Act.put, List.setIfInBounds_toArray]; try simp only [List.set_cons_succ, List.set_cons_zero]
              refine goH (i := 12) (by kernel_rfl) rfl (fun K_ hK_ => ?_)
              go_simp
              refine (same_n hn5.out.symm hn6.out.symm (by have := hn5.out; have := s.raw1_le (iget ns i); omega) HO5.out.rd ho6.out.rd).mono ?_
              rintro e w7 ⟨rfl, st7⟩
              replace HI2 := Lib.hid (HI2.out.calm st7.chg)
              refine hK_.out _ _ inferInstance (fun _ => ?_)
              clear hK_ K_
              try simp only [Act.put, List.setIfInBounds_toArray]; try simp only [List.set_cons_succ, List.set_cons_zero]
              refine' takeH (i := 13) (v := _) rfl (by kernel_rfl) (by kernel_rfl) (by kernel_rfl) (fun _ _ _ h => h) (yields_of (by rfl) (fun w' _ => ?_)) inferInstance ?_
              rotate_left
              · (go_simp; try with_reducible rfl)
              try simp only [Act.put, List.setIfInBounds_toArray]; try simp only [List.set_cons_succ, List.set_cons_zero]
              refine wpAnyH_done (by kernel_rfl) ?_ _
              clear hoT sb1 sb2 hqR st5 st6 h5 h6 c5 c6 ho5 ho6 HO5
              obtain ⟨s2, hs2⟩ : ∃ x : RS, (s.raw (iget ns i)).2 = x := ⟨_, rfl⟩
              rw [hs2] at HI2
              clear hs2
              obtain ⟨A9, n9, c9, hn9, hnc9, hb9, _⟩ := HI2.out.q.ex
              subst hn9
              have hB9 : HB w7 q2 29 #[.slice A9 s2.b.length c9, .bool s2.e] := ⟨hb9⟩
              have hl9 : s2.b.length ≤ 1000000000000 := by have := HI2.out.len; omega
              have hl99 : s2.b.length ≤ 9223372036854775807 := by omega
              clear hb9 hnc9
              go_wp2_with fail
              refine wp_region_N (nowhere) (by kernel_rfl) (fun wd _ _ => ?_)
              refine' takeH (i := 0) (v := _) rfl (by kernel_rfl) (by kernel_rfl) (by kernel_rfl) (fun _ _ _ h => h) (yields_of (by rfl) (fun w' _ => ?_)) inferInstance ?_
              rotate_left
              · (go_simp; try with_reducible rfl)
              try simp only [Act.put, List.setIfInBounds_toArray]; try simp only [List.set_cons_succ, List.set_cons_zero]
              refine' takeH (i := 1) (v := _) rfl (by kernel_rfl) (by kernel_rfl) (by kernel_rfl) (fun _ _ _ h => h) (yields_of (by rfl) (fun w' _ => ?_)) inferInstance ?_
              rotate_left
              · (go_simp; try with_reducible rfl)
              try simp only [Act.put, List.setIfInBounds_toArray]; try simp only [List.set_cons_succ, List.set_cons_zero]
              refine' takeH (i := 2) (v := _) rfl (by kernel_rfl) (by kernel_rfl) (by kernel_rfl) (fun _ _ _ h => h) (yields_of (by rfl) (fun w' _ => ?_)) inferInstance ?_
              rotate_left
              · (go_simp; try with_reducible rfl)
              try simp only [Act.put, List.setIfInBounds_toArray]; try simp only [List.set_cons_succ, List.set_cons_zero]
              refine' takeH (i := 3) (v := _) rfl (by kernel_rfl) (by kernel_rfl) (by kernel_rfl) (fun _ _ _ h => h) (yields_of (by rfl) (fun w' _ => ?_)) inferInstance ?_
              rotate_left
              · (go_simp; try with_reducible rfl)
              try simp only [Act.put, List.setIfInBounds_toArray]; try simp only [List.set_cons_succ, List.set_cons_zero]
              refine' takeH (i := 5) (v := _) rfl (by kernel_rfl) (by kernel_rfl) (by kernel_rfl) (fun _ _ _ h => h) (yields_of (by rfl) (fun w' _ => ?_)) inferInstance ?_
              rotate_left
              · (go_simp; try with_reducible rfl)
              try simp only [Act.put, List.setIfInBounds_toArray]; try simp only [List.set_cons_succ, List.set_cons_zero]
              refine' takeH (i := 6) (v := _) rfl (by kernel_rfl) (by kernel_rfl) (by kernel_rfl) (fun _ _ _ h => h) (yields_of (by rfl) (fun w' _ => ?_)) inferInstance ?_
              rotate_left
              · (go_simp; try with_reducible rfl)
              try simp only [Act.put, List.setIfInBounds_toArray]; try simp only [List.set_cons_succ, List.set_cons_zero]
              refine' takeH (i := 7) (v := _) rfl (by kernel_rfl) (by kernel_rfl) (by kernel_rfl) (fun _ _ _ h => h) (yields_of (by rfl) (fun w' _ => ?_)) inferInstance ?_
              rotate_left
              · (go_simp; try with_reducible rfl)
              try simp only [Act.put, List.setIfInBounds_toArray]; try simp only [List.set_cons_succ, List.set_cons_zero]
              refine' takeH (i := 8) (v := _) rfl (by kernel_rfl) (by kernel_rfl) (by kernel_rfl) (fun _ _ _ h => h) (yields_of (by rfl) (fun w' _ => ?_)) inferInstance ?_
              rotate_left
              · (first | ((with_reducible apply (ev_loadI (t := 3))); (exact rfl); (exact inferInstance); (exact inferInstance); (exact hipl)) | ((with_reducible apply ev_loadrow); (exact rfl); (exact inferInstance); (exact inferInstance); (first | (with_reducible assumption) | (with_reducible exact H32.size _) | kernel_rfl)) | ((with_reducible apply ev_loadcellN); (exact rfl); (exact inferInstance); (exact inferInstance); (exact rfl)) | ((with_reducible apply (ev_loadint (t := 3))); (exact rfl); (exact inferInstance); (exact inferInstance); (first | (with_reducible assumption) | omega)) | ((with_reducible apply (ev_loadbyte (t := 5))); (exact rfl); (exact inferInstance); (exact inferInstance); (first | (with_reducible assumption) | omega)) | (go_simp; try with_reducible rfl))
              try simp only [Act.put, List.setIfInBounds_toArray]; try simp only [List.set_cons_succ, List.set_cons_zero]
              refine' takeH (i := 9) (v := _) rfl (by kernel_rfl) (by kernel_rfl) (by kernel_rfl) (fun _ _ _ h => h) (yields_of (by rfl) (fun w' _ => ?_)) inferInstance ?_
              rotate_left
              · (go_simp; try with_reducible rfl)
              try simp only [Act.put, List.setIfInBounds_toArray]; try simp only [List.set_cons_succ, List.set_cons_zero]
              refine goH (i := 4) (by kernel_rfl) rfl (fun K_ hK_ => ?_)
              go_simp
              refine (Left_n (HI2.out.calm (stepN (w0 := w7) (w := wd)).chg).r).mono ?_
              rintro e w15 ⟨rfl, _⟩
              refine hK_.out _ _ inferInstance (fun _ => ?_)
              clear hK_ K_
              try simp only [Act.put, List.setIfInBounds_toArray]; try simp only [List.set_cons_succ, List.set_cons_zero]
              refine' takeH (i := 10) (v := _) rfl (by kernel_rfl) (by kernel_rfl) (by kernel_rfl) (fun _ _ _ h => h) (yields_of (by rfl) (fun w' _ => ?_)) inferInstance ?_
              rotate_left
              · (go_simp; try with_reducible rfl)
              try simp only [Act.put, List.setIfInBounds_toArray]; try simp only [List.set_cons_succ, List.set_cons_zero]
              refine' takeH (i := 11) (v := _) rfl (by kernel_rfl) (by kernel_rfl) (by kernel_rfl) (fun _ _ _ h => h) (yields_of (by rfl) (fun w' _ => ?_)) inferInstance ?_
              rotate_left
              · (go_simp; try with_reducible rfl)
              try simp only [Act.put, List.setIfInBounds_toArray]; try simp only [List.set_cons_succ, List.set_cons_zero]
              refine' takeH (i := 12) (v := _) rfl (by kernel_rfl) (by kernel_rfl) (by kernel_rfl) (fun _ _ _ h => h) (yields_of (by rfl) (fun w' _ => ?_)) inferInstance ?_
              rotate_left
              · (go_simp; try with_reducible rfl)
              try simp only [Act.put, List.setIfInBounds_toArray]; try simp only [List.set_cons_succ, List.set_cons_zero]
              refine' takeH (i := 13) (v := _) rfl (by kernel_rfl) (by kernel_rfl) (by kernel_rfl) (fun _ _ _ h => h) (yields_of (by rfl) (fun w' _ => ?_)) inferInstance ?_
              rotate_left
              · (go_simp; try with_reducible rfl)
              try simp only [Act.put, List.setIfInBounds_toArray]; try simp only [List.set_cons_succ, List.set_cons_zero]
              refine' takeH (i := 15) (v := _) rfl (by kernel_rfl) (by kernel_rfl) (by kernel_rfl) (fun _ _ _ h => h) (yields_of (by rfl) (fun w' _ => ?_)) inferInstance ?_
              rotate_left
              · (go_simp; try with_reducible rfl)
              try simp only [Act.put, List.setIfInBounds_toArray]; try simp only [List.set_cons_succ, List.set_cons_zero]
              refine' takeH (i := 16) (v := _) rfl (by kernel_rfl) (by kernel_rfl) (by kernel_rfl) (fun _ _ _ h => h) (yields_of (by rfl) (fun w' _ => ?_)) inferInstance ?_
              rotate_left
              · (go_simp; try with_reducible rfl)
              try simp only [Act.put, List.setIfInBounds_toArray]; try simp only [List.set_cons_succ, List.set_cons_zero]
              refine' takeH (i := 17) (v := _) rfl (by kernel_rfl) (by kernel_rfl) (by kernel_rfl) (fun _ _ _ h => h) (yields_of (by rfl) (fun w' _ => ?_)) inferInstance ?_
              rotate_left
              · (go_simp; try with_reducible rfl)
              try simp only [Act.put, List.setIfInBounds_toArray]; try simp only [List.set_cons_succ, List.set_cons_zero]
              refine' takeH (i := 18) (v := _) rfl (by kernel_rfl) (by kernel_rfl) (by kernel_rfl) (fun _ _ _ h => h) (yields_of (by rfl) (fun w' _ => ?_)) inferInstance ?_
              rotate_left
              · (first | ((with_reducible apply (ev_loadI (t := 3))); (exact rfl); (exact inferInstance); (exact inferInstance); (exact hipl)) | ((with_reducible apply ev_loadrow); (exact rfl); (exact inferInstance); (exact inferInstance); (first | (with_reducible assumption) | (with_reducible exact H32.size _) | kernel_rfl)) | ((with_reducible apply ev_loadcellN); (exact rfl); (exact inferInstance); (exact inferInstance); (exact rfl)) | ((with_reducible apply (ev_loadint (t := 3))); (exact rfl); (exact inferInstance); (exact inferInstance); (first | (with_reducible assumption) | omega)) | ((with_reducible apply (ev_loadbyte (t := 5))); (exact rfl); (exact inferInstance); (exact inferInstance); (first | (with_reducible assumption) | omega)) | (go_simp; try with_reducible rfl))
              try simp only [Act.put, List.setIfInBounds_toArray]; try simp only [List.set_cons_succ, List.set_cons_zero]
              refine goH (i := 14) (by kernel_rfl) rfl (fun K_ hK_ => ?_)
              go_simp
              refine (Good_n (HI2.out.calm (stepN (w0 := w7) (w := w15)).chg).r).mono ?_
              rintro e w16 ⟨rfl, _⟩
              refine hK_.out _ _ inferInstance (fun _ => ?_)
              clear hK_ K_
              try simp only [Act.put, List.setIfInBounds_toArray]; try simp only [List.set_cons_succ, List.set_cons_zero]
              refine' takeH (i := 19) (v := _) rfl (by kernel_rfl) (by kernel_rfl) (by kernel_rfl) (fun _ _ _ h => h) (yields_of (by rfl) (fun w' _ => ?_)) inferInstance ?_
              rotate_left
              · (go_simp; try with_reducible rfl)
              try simp only [Act.put, List.setIfInBounds_toArray]; try simp only [List.set_cons_succ, List.set_cons_zero]
              refine' takeH (i := 20) (v := _) rfl (by kernel_rfl) (by kernel_rfl) (by kernel_rfl) (fun _ _ _ h => h) (yields_of (by rfl) (fun w' _ => ?_)) inferInstance ?_
              rotate_left
              · (go_simp; try with_reducible rfl)
              try simp only [Act.put, List.setIfInBounds_toArray]; try simp only [List.set_cons_succ, List.set_cons_zero]
              refine' takeH (i := 21) (v := _) rfl (by kernel_rfl) (by kernel_rfl) (by kernel_rfl) (fun _ _ _ h => h) (yields_of (by rfl) (fun w' _ => ?_)) inferInstance ?_
              rotate_left
              · (go_simp; try with_reducible rfl)
              try simp only [Act.put, List.setIfInBounds_toArray]; try simp only [List.set_cons_succ, List.set_cons_zero]
              refine' takeH (i := 22) (v := _) rfl (by kernel_rfl) (by kernel_rfl) (by kernel_rfl) (fun _ _ _ h => h) (yields_of (by rfl) (fun w' _ => ?_)) inferInstance ?_
              rotate_left
              · (go_simp; try with_reducible rfl)
              try simp only [Act.put, List.setIfInBounds_toArray]; try simp only [List.set_cons_succ, List.set_cons_zero]
              refine' takeH (i := 24) (v := _) rfl (by kernel_rfl) (by kernel_rfl) (by kernel_rfl) (fun _ _ _ h => h) (yields_of (by rfl) (fun w' _ => ?_)) inferInstance ?_
              rotate_left
              · (go_simp; try with_reducible rfl)
              try simp only [Act.put, List.setIfInBounds_toArray]; try simp only [List.set_cons_succ, List.set_cons_zero]
              refine goH (i := 23) (by kernel_rfl) rfl (fun K_ hK_ => ?_)
              go_simp
              refine (Whole_n (HI2.out.calm (stepN (w0 := w7) (w := w16)).chg).r hl9).mono ?_
              rintro e w17 ⟨rfl, _⟩
              refine hK_.out _ _ inferInstance (fun _ => ?_)
              clear hK_ K_
              try simp only [Act.put, List.setIfInBounds_toArray]; try simp only [List.set_cons_succ, List.set_cons_zero]
              refine goH (i := 25) (by kernel_rfl) rfl (fun K_ hK_ => ?_)
              go_simp
              refine (rrWhole_n (HI2.out.calm (stepN (w0 := w7) (w := w17)).chg).q hl9).mono ?_
              rintro e w18 ⟨rfl, _⟩
              refine hK_.out _ _ inferInstance (fun _ => ?_)
              clear hK_ K_
              try simp only [Act.put, List.setIfInBounds_toArray]; try simp only [List.set_cons_succ, List.set_cons_zero]
              refine' takeH (i := 26) (v := _) rfl (by kernel_rfl) (by kernel_rfl) (by kernel_rfl) (fun _ _ _ h => h) (yields_of (by rfl) (fun w' _ => ?_)) inferInstance ?_
              rotate_left
              · (go_simp; try with_reducible rfl)
              try simp only [Act.put, List.setIfInBounds_toArray]; try simp only [List.set_cons_succ, List.set_cons_zero]
              refine' takeH (i := 27) (v := _) rfl (by kernel_rfl) (by kernel_rfl) (by kernel_rfl) (fun _ _ _ h => h) (yields_of (by rfl) (fun w' _ => ?_)) inferInstance ?_
              rotate_left
              · (go_simp; try with_reducible rfl)
              try simp only [Act.put, List.setIfInBounds_toArray]; try simp only [List.set_cons_succ, List.set_cons_zero]
              refine wpAnyH_done (by kernel_rfl) ?_ _
              go_wp2_with fail
              exact ⟨⟨i + 1, s2, by omega, by go_num, Lib.hid (HI2.out.calm (stepN (w0 := w7) (w := w18)).chg)⟩, by simp [intOf]; omega⟩
            · have f3 : (kv == 3) = false := by simp [k3]
              clear k3
              by_cases k4 : kv = 4
              · have f4 : (kv == 4) = true := by simp [k4]
                clear k4
                go_wp2_with fail
                refine (Bad_calls g d s _ HI.out.r).mono ?_
                rintro e w5 ⟨rfl, h5, c5⟩
                go_wp2_with fail
                refine (rrBad_calls q2 d2 s _ (HI.out.q1 c5.out)).mono ?_
                rintro e w6 ⟨rfl, h6, c6⟩
                have HI2 := Lib.hid (HI.out.next c5.out h5.out c6.out h6.out (Nat.zero_le _))
                clear h5 c5 h6 c6
                go_wp2_with fail
                obtain ⟨s2, hs2⟩ : ∃ x : RS, RS.bad = x := ⟨_, rfl⟩
                rw [hs2] at HI2
                clear hs2
                obtain ⟨A9, n9, c9, hn9, hnc9, hb9, _⟩ := HI2.out.q.ex
                subst hn9
                have hB9 : HB w6 q2 29 #[.slice A9 s2.b.length c9, .bool s2.e] := ⟨hb9⟩
                have hl9 : s2.b.length ≤ 1000000000000 := by have := HI2.out.len; omega
                have hl99 : s2.b.length ≤ 9223372036854775807 := by omega
                clear hb9 hnc9
                go_wp2_with fail
                refine wp_region_N (nowhere) (by kernel_rfl) (fun wd _ _ => ?_)
                refine' takeH (i := 0) (v := _) rfl (by kernel_rfl) (by kernel_rfl) (by kernel_rfl) (fun _ _ _ h => h) (yields_of (by rfl) (fun w' _ => ?_)) inferInstance ?_
                rotate_left
                · (go_simp; try with_reducible rfl)
                try simp only [Act.put, List.setIfInBounds_toArray]; try simp only [List.set_cons_succ, List.set_cons_zero]
                refine' takeH (i := 1) (v := _) rfl (by kernel_rfl) (by kernel_rfl) (by kernel_rfl) (fun _ _ _ h => h) (yields_of (by rfl) (fun w' _ => ?_)) inferInstance ?_
                rotate_left
                · (go_simp; try with_reducible rfl)
                try simp only [Act.put, List.setIfInBounds_toArray]; try simp only [List.set_cons_succ, List.set_cons_zero]
                refine' takeH (i := 2) (v := _) rfl (by kernel_rfl) (by kernel_rfl) (by kernel_rfl) (fun _ _ _ h => h) (yields_of (by rfl) (fun w' _ => ?_)) inferInstance ?_
                rotate_left
                · (go_simp; try with_reducible rfl)
                try simp only [Act.put, List.setIfInBounds_toArray]; try simp only [List.set_cons_succ, List.set_cons_zero]
                refine' takeH (i := 3) (v := _) rfl (by kernel_rfl) (by kernel_rfl) (by kernel_rfl) (fun _ _ _ h => h) (yields_of (by rfl) (fun w' _ => ?_)) inferInstance ?_
                rotate_left
                · (go_simp; try with_reducible rfl)
                try simp only [Act.put, List.setIfInBounds_toArray]; try simp only [List.set_cons_succ, List.set_cons_zero]
                refine' takeH (i := 5) (v := _) rfl (by kernel_rfl) (by kernel_rfl) (by kernel_rfl) (fun _ _ _ h => h) (yields_of (by rfl) (fun w' _ => ?_)) inferInstance ?_
                rotate_left
                · (go_simp; try with_reducible rfl)
                try simp only [Act.put, List.setIfInBounds_toArray]; try simp only [List.set_cons_succ, List.set_cons_zero]
                refine' takeH (i := 6) (v := _) rfl (by kernel_rfl) (by kernel_rfl) (by kernel_rfl) (fun _ _ _ h => h) (yields_of (by rfl) (fun w' _ => ?_)) inferInstance ?_
                rotate_left
                · (go_simp; try with_reducible rfl)
                try simp only [Act.put, List.setIfInBounds_toArray]; try simp only [List.set_cons_succ, List.set_cons_zero]
                refine' takeH (i := 7) (v := _) rfl (by kernel_rfl) (by kernel_rfl) (by kernel_rfl) (fun _ _ _ h => h) (yields_of (by rfl) (fun w' _ => ?_)) inferInstance ?_
                rotate_left
                · (go_simp; try with_reducible rfl)
                try simp only [Act.put, List.setIfInBounds_toArray]; try simp only [List.set_cons_succ, List.set_cons_zero]
                refine' takeH (i := 8) (v := _) rfl (by kernel_rfl) (by kernel_rfl) (by kernel_rfl) (fun _ _ _ h => h) (yields_of (by rfl) (fun w' _ => ?_)) inferInstance ?_
                rotate_left
                · (first | ((with_reducible apply (ev_loadI (t := 3))); (exact rfl); (exact inferInstance); (exact inferInstance); (exact hipl)) | ((with_reducible apply ev_loadrow); (exact rfl); (exact inferInstance); (exact inferInstance); (first | (with_reducible assumption) | (with_reducible exact H32.size _) | kernel_rfl)) | ((with_reducible apply ev_loadcellN); (exact rfl); (exact inferInstance); (exact inferInstance); (exact rfl)) | ((with_reducible apply (ev_loadint (t := 3))); (exact rfl); (exact inferInstance); (exact inferInstance); (first | (with_reducible assumption) | omega)) | ((with_reducible apply (ev_loadbyte (t := 5))); (exact rfl); (exact inferInstance); (exact inferInstance); (first | (with_reducible assumption) | omega)) | (go_simp; try with_reducible rfl))
                try simp only [Act.put, List.setIfInBounds_toArray]; try simp only [List.set_cons_succ, List.set_cons_zero]
                refine' takeH (i := 9) (v := _) rfl (by kernel_rfl) (by kernel_rfl) (by kernel_rfl) (fun _ _ _ h => h) (yields_of (by rfl) (fun w' _ => ?_)) inferInstance ?_
                rotate_left
                · (go_simp; try with_reducible rfl)
                try simp only [Act.put, List.setIfInBounds_toArray]; try simp only [List.set_cons_succ, List.set_cons_zero]
                refine goH (i := 4) (by kernel_rfl) rfl (fun K_ hK_ => ?_)
                go_simp
                refine (Left_n (HI2.out.calm (stepN (w0 := w6) (w := wd)).chg).r).mono ?_
                rintro e w15 ⟨rfl, _⟩
                refine hK_.out _ _ inferInstance (fun _ => ?_)
                clear hK_ K_
                try simp only [Act.put, List.setIfInBounds_toArray]; try simp only [List.set_cons_succ, List.set_cons_zero]
                refine' takeH (i := 10) (v := _) rfl (by kernel_rfl) (by kernel_rfl) (by kernel_rfl) (fun _ _ _ h => h) (yields_of (by rfl) (fun w' _ => ?_)) inferInstance ?_
                rotate_left
                · (go_simp; try with_reducible rfl)
                try simp only [Act.put, List.setIfInBounds_toArray]; try simp only [List.set_cons_succ, List.set_cons_zero]
                refine' takeH (i := 11) (v := _) rfl (by kernel_rfl) (by kernel_rfl) (by kernel_rfl) (fun _ _ _ h => h) (yields_of (by rfl) (fun w' _ => ?_)) inferInstance ?_
                rotate_left
                · (go_simp; try with_reducible rfl)
                try simp only [Act.put, List.setIfInBounds_toArray]; try simp only [List.set_cons_succ, List.set_cons_zero]
                refine' takeH (i := 12) (v := _) rfl (by kernel_rfl) (by kernel_rfl) (by kernel_rfl) (fun _ _ _ h => h) (yields_of (by rfl) (fun w' _ => ?_)) inferInstance ?_
                rotate_left
                · (go_simp; try with_reducible rfl)
                try simp only [Act.put, List.setIfInBounds_toArray]; try simp only [List.set_cons_succ, List.set_cons_zero]
                refine' takeH (i := 13) (v := _) rfl (by kernel_rfl) (by kernel_rfl) (by kernel_rfl) (fun _ _ _ h => h) (yields_of (by rfl) (fun w' _ => ?_)) inferInstance ?_
                rotate_left
                · (go_simp; try with_reducible rfl)
                try simp only [Act.put, List.setIfInBounds_toArray]; try simp only [List.set_cons_succ, List.set_cons_zero]
                refine' takeH (i := 15) (v := _) rfl (by kernel_rfl) (by kernel_rfl) (by kernel_rfl) (fun _ _ _ h => h) (yields_of (by rfl) (fun w' _ => ?_)) inferInstance ?_
                rotate_left
                · (go_simp; try with_reducible rfl)
                try simp only [Act.put, List.setIfInBounds_toArray]; try simp only [List.set_cons_succ, List.set_cons_zero]
                refine' takeH (i := 16) (v := _) rfl (by kernel_rfl) (by kernel_rfl) (by kernel_rfl) (fun _ _ _ h => h) (yields_of (by rfl) (fun w' _ => ?_)) inferInstance ?_
                rotate_left
                · (go_simp; try with_reducible rfl)
                try simp only [Act.put, List.setIfInBounds_toArray]; try simp only [List.set_cons_succ, List.set_cons_zero]
                refine' takeH (i := 17) (v := _) rfl (by kernel_rfl) (by kernel_rfl) (by kernel_rfl) (fun _ _ _ h => h) (yields_of (by rfl) (fun w' _ => ?_)) inferInstance ?_
                rotate_left
                · (go_simp; try with_reducible rfl)
                try simp only [Act.put, List.setIfInBounds_toArray]; try simp only [List.set_cons_succ, List.set_cons_zero]
                refine' takeH (i := 18) (v := _) rfl (by kernel_rfl) (by kernel_rfl) (by kernel_rfl) (fun _ _ _ h => h) (yields_of (by rfl) (fun w' _ => ?_)) inferInstance ?_
                rotate_left
                · (first | ((with_reducible apply (ev_loadI (t := 3))); (exact rfl); (exact inferInstance); (exact inferInstance); (exact hipl)) | ((with_reducible apply ev_loadrow); (exact rfl); (exact inferInstance); (exact inferInstance); (first | (with_reducible assumption) | (with_reducible exact H32.size _) | kernel_rfl)) | ((with_reducible apply ev_loadcellN); (exact rfl); (exact inferInstance); (exact inferInstance); (exact rfl)) | ((with_reducible apply (ev_loadint (t := 3))); (exact rfl); (exact inferInstance); (exact inferInstance); (first | (with_reducible assumption) | omega)) | ((with_reducible apply (ev_loadbyte (t := 5))); (exact rfl); (exact inferInstance); (exact inferInstance); (first | (with_reducible assumption) | omega)) | (go_simp; try with_reducible rfl))
                try simp only [Act.put, List.setIfInBounds_toArray]; try simp only [List.set_cons_succ, List.set_cons_zero]
                refine goH (i := 14) (by kernel_rfl) rfl (fun K_ hK_ => ?_)
                go_simp
                refine (Good_n (HI2.out.calm (stepN (w0 := w6) (w := w15)).chg).r).mono ?_
                rintro e w16 ⟨rfl, _⟩
                refine hK_.out _ _ inferInstance (fun _ => ?_)
                clear hK_ K_
                try simp only [Act.put, List.setIfInBounds_toArray]; try simp only [List.set_cons_succ, List.set_cons_zero]
                refine' takeH (i := 19) (v := _) rfl (by kernel_rfl) (by kernel_rfl) (by kernel_rfl) (fun _ _ _ h => h) (yields_of (by rfl) (fun w' _ => ?_)) inferInstance ?_
                rotate_left
                · (go_simp; try with_reducible rfl)
                try simp only [Act.put, List.setIfInBounds_toArray]; try simp only [List.set_cons_succ, List.set_cons_zero]
                refine' takeH (i := 20) (v := _) rfl (by kernel_rfl) (by kernel_rfl) (by kernel_rfl) (fun _ _ _ h => h) (yields_of (by rfl) (fun w' _ => ?_)) inferInstance ?_
                rotate_left
                · (go_simp; try with_reducible rfl)
                try simp only [Act.put, List.setIfInBounds_toArray]; try simp only [List.set_cons_succ, List.set_cons_zero]
                refine' takeH (i := 21) (v := _) rfl (by kernel_rfl) (by kernel_rfl) (by kernel_rfl) (fun _ _ _ h => h) (yields_of (by rfl) (fun w' _ => ?_)) inferInstance ?_
                rotate_left
                · (go_simp; try with_reducible rfl)
                try simp only [Act.put, List.setIfInBounds_toArray]; try simp only [List.set_cons_succ, List.set_cons_zero]
                refine' takeH (i := 22) (v := _) rfl (by kernel_rfl) (by kernel_rfl) (by kernel_rfl) (fun _ _ _ h => h) (yields_of (by rfl) (fun w' _ => ?_)) inferInstance ?_
                rotate_left
                · (go_simp; try with_reducible rfl)
                try simp only [Act.put, List.setIfInBounds_toArray]; try simp only [List.set_cons_succ, List.set_cons_zero]
                refine' takeH (i := 24) (v := _) rfl (by kernel_rfl) (by kernel_rfl) (by kernel_rfl) (fun _ _ _ h => h) (yields_of (by rfl) (fun w' _ => ?_)) inferInstance ?_
                rotate_left
                · (go_simp; try with_reducible rfl)
                try simp only [Act.put, List.setIfInBounds_toArray]; try simp only [List.set_cons_succ, List.set_cons_zero]
                refine goH (i := 23) (by kernel_rfl) rfl (fun K_ hK_ => ?_)
                go_simp
                refine (Whole_n (HI2.out.calm (stepN (w0 := w6) (w := w16)).chg).r hl9).mono ?_
                rintro e w17 ⟨rfl, _⟩
                refine hK_.out _ _ inferInstance (fun _ => ?_)
                clear hK_ K_
                try simp only [Act.put, List.setIfInBounds_toArray]; try simp only [List.set_cons_succ, List.set_cons_zero]
                refine goH (i := 25) (by kernel_rfl) rfl (fun K_ hK_ => ?_)
                go_simp
                refine (rrWhole_n (HI2.out.calm (stepN (w0 := w6) (w := w17)).chg).q hl9).mono ?_
                rintro e w18 ⟨rfl, _⟩
                refine hK_.out _ _ inferInstance (fun _ => ?_)
                clear hK_ K_
                try simp only [Act.put, List.setIfInBounds_toArray]; try simp only [List.set_cons_succ, List.set_cons_zero]
                refine' takeH (i := 26) (v := _) rfl (by kernel_rfl) (by kernel_rfl) (by kernel_rfl) (fun _ _ _ h => h) (yields_of (by rfl) (fun w' _ => ?_)) inferInstance ?_
                rotate_left
                · (go_simp; try with_reducible rfl)
                try simp only [Act.put, List.setIfInBounds_toArray]; try simp only [List.set_cons_succ, List.set_cons_zero]
                refine' takeH (i := 27) (v := _) rfl (by kernel_rfl) (by kernel_rfl) (by kernel_rfl) (fun _ _ _ h => h) (yields_of (by rfl) (fun w' _ => ?_)) inferInstance ?_
                rotate_left
                · (go_simp; try with_reducible rfl)
                try simp only [Act.put, List.setIfInBounds_toArray]; try simp only [List.set_cons_succ, List.set_cons_zero]
                refine wpAnyH_done (by kernel_rfl) ?_ _
                go_wp2_with fail
                exact ⟨⟨i + 1, s2, by omega, by go_num, Lib.hid (HI2.out.calm (stepN (w0 := w6) (w := w18)).chg)⟩, by simp [intOf]; omega⟩
              · have f4 : (kv == 4) = false := by simp [k4]
                clear k4
                go_wp2_with (first | go_skip | ((with_reducible apply (stop_dst (dst := some 56))); (try simp only [Act.put, List.setIfInBounds_toArray, List.set_cons_succ, List.set_cons_zero]); ((with_reducible apply (wpl_bslice (dst := some 56))); (exact run_pt3 _ _ _); intro zb wb _ _ _)) | ((with_reducible apply (wpl_alloc (dst := some 13))); intro za wza _ _ _) | ((with_reducible apply (wpl_box_agg (dst := some 13))); (exact rfl); intro za wza _ _ _) | ((with_reducible apply (wpl_box_int (dst := some 13))); (exact rfl); intro za wza _ _ _) | ((with_reducible apply (wpl_box_slice (dst := some 13))); (exact rfl); intro za wza _ _ _) | ((with_reducible apply (wpl_box_str (dst := some 13))); (exact rfl); intro za wza _ _ _) | ((with_reducible apply (wpl_box_bool (dst := some 13))); (exact rfl); intro za wza _ _ _) | ((with_reducible apply (wpl_box_ptr (dst := some 13))); (exact rfl); intro za wza _ _ _) | ((with_reducible apply (wpl_alloc (dst := some 14))); intro zc wzc _ _ _) | ((with_reducible apply (wpl_box_agg (dst := some 14))); (exact rfl); intro zc wzc _ _ _) | ((with_reducible apply (wpl_box_int (dst := some 14))); (exact rfl); intro zc wzc _ _ _) | ((with_reducible apply (wpl_box_slice (dst := some 14))); (exact rfl); intro zc wzc _ _ _) | ((with_reducible apply (wpl_box_str (dst := some 14))); (exact rfl); intro zc wzc _ _ _) | ((with_reducible apply (wpl_box_bool (dst := some 14))); (exact rfl); intro zc wzc _ _ _) | ((with_reducible apply (wpl_box_ptr (dst := some 14))); (exact rfl); intro zc wzc _ _ _) | ((with_reducible apply wpl_alloc); intro z wz _ _ _) | ((with_reducible apply wpl_box_agg); (exact rfl); intro z wz _ _ _) | ((with_reducible apply wpl_box_int); (exact rfl); intro z wz _ _ _) | ((with_reducible apply wpl_box_slice); (exact rfl); intro z wz _ _ _) | ((with_reducible apply wpl_box_str); (exact rfl); intro z wz _ _ _) | ((with_reducible apply wpl_box_bool); (exact rfl); intro z wz _ _ _) | ((with_reducible apply wpl_box_ptr); (exact rfl); intro z wz _ _ _) | ((with_reducible apply (wpl_guard (op := .load _ _))); (exact rfl)) | ((with_reducible apply (wpl_guard (op := .fieldAddr _ _ _))); (exact rfl)) | ((with_reducible apply wpl_loadrow); (exact rfl); (exact inferInstance); (exact inferInstance); (first | (with_reducible assumption) | (with_reducible exact H32.size _) | kernel_rfl)) | ((with_reducible apply wpl_loadcellN); (exact rfl); (exact inferInstance); (exact rfl)) | ((with_reducible apply wpl_storerow); (exact rfl); (exact rfl); (exact inferInstance); (exact inferInstance); (first | (with_reducible assumption) | (with_reducible exact H32.size _) | kernel_rfl); (first | (with_reducible assumption) | (with_reducible exact H32.size _) | kernel_rfl); (first | (with_reducible exact u8s_one _) | (with_reducible assumption) | kernel_rfl); intro ws _ _) | ((with_reducible apply wpl_storecell); (exact rfl); (exact rfl); (exact inferInstance); (exact rfl); (first | (with_reducible assumption) | omega | (focus (simp; done)) | (focus (simp; omega; done)) | decide); intro ws _ _))
                have eA : za = wr.heap.size := (inferInstance : Born wr za).eq
                have eC : zc = wza.heap.size := (inferInstance : Born wza zc).eq
                have lA := (inferInstance : HB wza za 3 #[.int .i64 0]).out.lt
                have lC := (inferInstance : HB wzc zc 3 #[.int .i64 0]).out.lt
                have hbA : HB wb za 3 #[.int .i64 7] := inferInstance
                have hbC : HB wb zc 3 #[.int .i64 7] := inferInstance
                have hbB : HB wb zb 36 #[.pointer (some ⟨za, 0, none⟩), .pointer none, .pointer (some ⟨zc, 0, none⟩)] := inferInstance
                have hneB : zb ≠ za ∧ zb ≠ zc := by
                  constructor
                  · exact fun e => (inferInstance : OffB (only zb) za).out e.symm
                  · exact fun e => (inferInstance : OffB (only zb) zc).out e.symm
                have stb : Step nowhere wr wb := stepN
                have hzbl : wr.heap.size ≤ zb := (NewA.monoS (w0 := wr) inferInstance : NewA wr (some ⟨zb, 0, none⟩)).out ⟨zb, 0, none⟩ rfl
                have HIb := Lib.hid (HI.out.calm stb.chg)
                have hgl := HI.out.r.lt
                have hql := HI.out.q.lt
                have hne2 : za ≠ zc := by omega
                refine (rNums_calls g d s (some ⟨zb, 0, none⟩) 3 3 [some ⟨za, 0, none⟩, none, some ⟨zc, 0, none⟩] wb HIb.out.r (by omega) (rd_blk hbB.out rfl) rfl (by decide) ?_ ?_).mono ?_
                · intro _ ad e hk
                  injection e with e
                  subst e
                  rcases hk with hk | ⟨ad', hm, hk⟩
                  · have hk' : zb = g := hk
                    omega
                  · simp only [List.mem_cons, Option.some.injEq, List.not_mem_nil, or_false, reduceCtorEq, false_or] at hm
                    rcases hm with rfl | rfl
                    · exact hneB.1 hk.symm
                    · exact hneB.2 hk.symm
                · intro ad hm
                  simp only [List.mem_cons, Option.some.injEq, List.not_mem_nil, or_false, reduceCtorEq, false_or] at hm
                  rcases hm with rfl | rfl
                  · exact ⟨za, 0, _, _, rfl, hbA.out, by decide, by omega, fun hne => by have := HI.out.r.dlt hne; omega⟩
                  · exact ⟨zc, 0, _, _, rfl, hbC.out, by decide, by omega, fun hne => by have := HI.out.r.dlt hne; omega⟩
                rintro e w5 ⟨rfl, h5, c5, b5⟩
                have hzS : ∀ x, NumsS g [some ⟨za, 0, none⟩, none, some ⟨zc, 0, none⟩] x → x = g ∨ x = za ∨ x = zc := by
                  rintro x (hx | ⟨ad', hm, hx⟩)
                  · exact .inl hx
                  · simp only [List.mem_cons, Option.some.injEq, List.not_mem_nil, or_false, reduceCtorEq, false_or] at hm
                    rcases hm with rfl | rfl
                    · exact .inr (.inl hx.symm)
                    · exact .inr (.inr hx.symm)
                have hA5 : HB w5 za 3 #[.int .i64 s.num.1] := ⟨by
                  have h1 := b5.out za _ _ (by omega) hbA.out
                  have e : putN za [some ⟨za, 0, none⟩, none, some ⟨zc, 0, none⟩] s 3 #[.int .i64 7] = #[.int .i64 s.num.1] := by
                    have : ¬ zc = za := fun h => hne2 h.symm
                    simp [putN, this, RS.at]
                  rwa [e] at h1⟩
                have hC5 : HB w5 zc 3 #[.int .i64 s.num.2.num.2.num.1] := ⟨by
                  have h1 := b5.out zc _ _ (by omega) hbC.out
                  have e : putN zc [some ⟨za, 0, none⟩, none, some ⟨zc, 0, none⟩] s 3 #[.int .i64 7] = #[.int .i64 s.num.2.num.2.num.1] := by
                    simp [putN, hne2, RS.at]
                  rwa [e] at h1⟩
                have HQ5 : Hid (RRAt w5 q2 d2 s) := Lib.hid (HIb.out.q.chg2 c5.out (fun h => by have := HI.out.ne; rcases hzS _ h with h | h | h <;> omega) (fun hne h => by have h6 := HI.out.q.dlt hne; have h7 := HI.out.nd2 hne; rcases hzS _ h with h | h | h <;> omega))
                have HX5 : Hid (Own w5 5 1 AX (n + 1) cx (bs (xs ++ [171]))) := Lib.hid (HIb.out.x.chg c5.out (fun ad e h => by have h6 := (HI.out.ax ad e).1; have h7 := HI.out.x.lt e; rcases hzS _ h with h | h | h <;> omega))
                have HC5 : Hid (Chg nowhere w w5) := Lib.hid (HIb.out.chg.step c5.out (fun x hx => by have h6 := HI.out.hg; have h7 := HI.out.chg.size; rcases hzS _ hx with h | h | h <;> omega))
                have H5 : Hid (RdrAt w5 g d s.num.2.num.2.num.2) := h5
                have oA : OffB (only q2) za := ⟨fun h => by have h' : za = q2 := h; omega⟩
                have oC : OffB (only q2) zc := ⟨fun h => by have h' : zc = q2 := h; omega⟩
                have l1 := s.num_le
                have l2 := s.num.2.num_le
                have l3 := s.num.2.num.2.num_le
                clear h5 b5 hzS hbA hbC hbB eA eC lA lC hneB hzbl hne2 stb
                go_wp2_with fail
                refine (rrNum_calls q2 d2 s w5 HQ5.out (by omega)).mono ?_
                rintro e w6 ⟨rfl, h6, c6⟩
                have st6 : Step (only q2) w5 w6 := ⟨c6.out⟩
                go_wp2_with fail
                refine (rrNum_calls q2 d2 s.num.2 w6 h6.out (by omega)).mono ?_
                rintro e w7 ⟨rfl, h7, c7⟩
                have st7 : Step (only q2) w6 w7 := ⟨c7.out⟩
                have hA7 : HB w7 za 3 #[.int .i64 s.num.1] := inferInstance
                have hC7 : HB w7 zc 3 #[.int .i64 s.num.2.num.2.num.1] := inferInstance
                go_wp2_with fail
                refine wp_region_N ((only q2)) (by kernel_rfl) (fun wd _ _ => ?_)
                refine' takeH (i := 0) (v := _) rfl (by kernel_rfl) (by kernel_rfl) (by kernel_rfl) (fun _ _ _ h => h) (yields_of (by rfl) (fun w' _ => ?_)) inferInstance ?_
                rotate_left
                · (first | ((with_reducible apply (ev_loadI (t := 3))); (exact rfl); (exact inferInstance); (exact inferInstance); (exact hipl)) | ((with_reducible apply ev_loadrow); (exact rfl); (exact inferInstance); (exact inferInstance); (first | (with_reducible assumption) | (with_reducible exact H32.size _) | kernel_rfl)) | ((with_reducible apply ev_loadcellN); (exact rfl); (exact inferInstance); (exact inferInstance); (exact rfl)) | ((with_reducible apply (ev_loadint (t := 3))); (exact rfl); (exact inferInstance); (exact inferInstance); (first | (with_reducible assumption) | omega)) | ((with_reducible apply (ev_loadbyte (t := 5))); (exact rfl); (exact inferInstance); (exact inferInstance); (first | (with_reducible assumption) | omega)) | (go_simp; try with_reducible rfl))
                try simp only [Act.put, List.setIfInBounds_toArray]; try simp only [List.set_cons_succ, List.set_cons_zero]
                refine' takeH (i := 1) (v := _) rfl (by kernel_rfl) (by kernel_rfl) (by kernel_rfl) (fun _ _ _ h => h) (yields_of (by rfl) (fun w' _ => ?_)) inferInstance ?_
                rotate_left
                · (go_simp; try with_reducible rfl)
                try simp only [Act.put, List.setIfInBounds_toArray]; try simp only [List.set_cons_succ, List.set_cons_zero]
                refine' takeH (i := 2) (v := _) rfl (by kernel_rfl) (by kernel_rfl) (by kernel_rfl) (fun _ _ _ h => h) (yields_of (by rfl) (fun w' _ => ?_)) inferInstance ?_
                rotate_left
                · (go_simp; try with_reducible rfl)
                try simp only [Act.put, List.setIfInBounds_toArray]; try simp only [List.set_cons_succ, List.set_cons_zero]
                refine' takeH (i := 3) (v := _) rfl (by kernel_rfl) (by kernel_rfl) (by kernel_rfl) (fun _ _ _ h => h) (yields_of (by rfl) (fun w' _ => ?_)) inferInstance ?_
                rotate_left
                · (go_simp; try with_reducible rfl)
                try simp only [Act.put, List.setIfInBounds_toArray]; try simp only [List.set_cons_succ, List.set_cons_zero]
                refine' takeH (i := 4) (v := _) rfl (by kernel_rfl) (by kernel_rfl) (by kernel_rfl) (fun _ _ _ h => h) (yields_of (by rfl) (fun w' _ => ?_)) inferInstance ?_
                rotate_left
                · (first | ((with_reducible apply (ev_loadI (t := 3))); (exact rfl); (exact inferInstance); (exact inferInstance); (exact hipl)) | ((with_reducible apply ev_loadrow); (exact rfl); (exact inferInstance); (exact inferInstance); (first | (with_reducible assumption) | (with_reducible exact H32.size _) | kernel_rfl)) | ((with_reducible apply ev_loadcellN); (exact rfl); (exact inferInstance); (exact inferInstance); (exact rfl)) | ((with_reducible apply (ev_loadint (t := 3))); (exact rfl); (exact inferInstance); (exact inferInstance); (first | (with_reducible assumption) | omega)) | ((with_reducible apply (ev_loadbyte (t := 5))); (exact rfl); (exact inferInstance); (exact inferInstance); (first | (with_reducible assumption) | omega)) | (go_simp; try with_reducible rfl))
                try simp only [Act.put, List.setIfInBounds_toArray]; try simp only [List.set_cons_succ, List.set_cons_zero]
                refine' takeH (i := 5) (v := _) rfl (by kernel_rfl) (by kernel_rfl) (by kernel_rfl) (fun _ _ _ h => h) (yields_of (by rfl) (fun w' _ => ?_)) inferInstance ?_
                rotate_left
                · (go_simp; try with_reducible rfl)
                try simp only [Act.put, List.setIfInBounds_toArray]; try simp only [List.set_cons_succ, List.set_cons_zero]
                refine goH (i := 6) (by kernel_rfl) rfl (fun K_ hK_ => ?_)
                go_simp
                refine (rrNum_calls q2 d2 s.num.2.num.2 wd (h7.out.chg (stepN (w0 := w7) (w := wd)).chg (fun h => h) (fun h => h)) (by omega)).mono ?_
                rintro e w8 ⟨rfl, h8, c8⟩
                have st8 : Step (only q2) wd w8 := ⟨c8.out⟩
                refine hK_.out _ _ inferInstance (fun _ => ?_)
                clear hK_ K_
                try simp only [Act.put, List.setIfInBounds_toArray]; try simp only [List.set_cons_succ, List.set_cons_zero]
                refine' takeH (i := 7) (v := _) rfl (by kernel_rfl) (by kernel_rfl) (by kernel_rfl) (fun _ _ _ h => h) (yields_of (by rfl) (fun w' _ => ?_)) inferInstance ?_
                rotate_left
                · (go_simp; try with_reducible rfl)
                try simp only [Act.put, List.setIfInBounds_toArray]; try simp only [List.set_cons_succ, List.set_cons_zero]
                refine' takeH (i := 8) (v := _) rfl (by kernel_rfl) (by kernel_rfl) (by kernel_rfl) (fun _ _ _ h => h) (yields_of (by rfl) (fun w' _ => ?_)) inferInstance ?_
                rotate_left
                · (go_simp; try with_reducible rfl)
                try simp only [Act.put, List.setIfInBounds_toArray]; try simp only [List.set_cons_succ, List.set_cons_zero]
                refine' takeH (i := 9) (v := _) rfl (by kernel_rfl) (by kernel_rfl) (by kernel_rfl) (fun _ _ _ h => h) (yields_of (by rfl) (fun w' _ => ?_)) inferInstance ?_
                rotate_left
                · (go_simp; try with_reducible rfl)
                try simp only [Act.put, List.setIfInBounds_toArray]; try simp only [List.set_cons_succ, List.set_cons_zero]
                refine wpAnyH_done (by kernel_rfl) ?_ _
                have hch : Chg (fun k => k = q2) w5 w8 := ((c6.out.trans c7.out (fun _ _ h => h)).trans (stepN (w0 := w7) (w := wd)).chg (fun _ _ h => h.elim)).trans c8.out (fun _ _ h => h)
                have HI2 : Hid (TkI w w8 g d q2 d2 AX (n + 1) cx (xs ++ [171]) s.num.2.num.2.num.2) := Lib.hid (by
                  have hsub : s.num.2.num.2.num.2.b ≠ [] → s.b ≠ [] := fun h h0 => h (List.eq_nil_of_length_eq_zero (by have h1 := List.length_eq_zero_iff.2 h0; omega))
                  exact ⟨H5.out.chg2 hch HI.out.ne (fun hne => HI.out.nd (hsub hne)), h8.out, HX5.out.chg hch (fun ad e => (HI.out.ax ad e).2), HC5.out.step hch (fun x hx => by rw [show x = q2 from hx]; exact HI.out.hg2), HI.out.hg, HI.out.hg2, HI.out.ne, fun h => HI.out.nd (hsub h), fun h => HI.out.nd2 (hsub h), HI.out.ax, by omega⟩)
                clear hch h8 c8 st8 h7 c7 st7 h6 c6 st6 hA5 hC5 hA7 hC7 oA oC l1 l2 l3 c5 HQ5 HX5 HC5 H5
                obtain ⟨s2, hs2⟩ : ∃ x : RS, s.num.2.num.2.num.2 = x := ⟨_, rfl⟩
                rw [hs2] at HI2
                clear hs2
                obtain ⟨A9, n9, c9, hn9, hnc9, hb9, _⟩ := HI2.out.q.ex
                subst hn9
                have hB9 : HB w8 q2 29 #[.slice A9 s2.b.length c9, .bool s2.e] := ⟨hb9⟩
                have hl9 : s2.b.length ≤ 1000000000000 := by have := HI2.out.len; omega
                have hl99 : s2.b.length ≤ 9223372036854775807 := by omega
                clear hb9 hnc9
                go_wp2_with fail
                refine wp_region_N (nowhere) (by kernel_rfl) (fun wd _ _ => ?_)
                refine' takeH (i := 0) (v := _) rfl (by kernel_rfl) (by kernel_rfl) (by kernel_rfl) (fun _ _ _ h => h) (yields_of (by rfl) (fun w' _ => ?_)) inferInstance ?_
                rotate_left
                · (go_simp; try with_reducible rfl)
                try simp only [Act.put, List.setIfInBounds_toArray]; try simp only [List.set_cons_succ, List.set_cons_zero]
                refine' takeH (i := 1) (v := _) rfl (by kernel_rfl) (by kernel_rfl) (by kernel_rfl) (fun _ _ _ h => h) (yields_of (by rfl) (fun w' _ => ?_)) inferInstance ?_
                rotate_left
                · (go_simp; try with_reducible rfl)
                try simp only [Act.put, List.setIfInBounds_toArray]; try simp only [List.set_cons_succ, List.set_cons_zero]
                refine' takeH (i := 2) (v := _) rfl (by kernel_rfl) (by kernel_rfl) (by kernel_rfl) (fun _ _ _ h => h) (yields_of (by rfl) (fun w' _ => ?_)) inferInstance ?_
                rotate_left
                · (go_simp; try with_reducible rfl)
                try simp only [Act.put, List.setIfInBounds_toArray]; try simp only [List.set_cons_succ, List.set_cons_zero]
                refine' takeH (i := 3) (v := _) rfl (by kernel_rfl) (by kernel_rfl) (by kernel_rfl) (fun _ _ _ h => h) (yields_of (by rfl) (fun w' _ => ?_)) inferInstance ?_
                rotate_left
                · (go_simp; try with_reducible rfl)
                try simp only [Act.put, List.setIfInBounds_toArray]; try simp only [List.set_cons_succ, List.set_cons_zero]
                refine' takeH (i := 5) (v := _) rfl (by kernel_rfl) (by kernel_rfl) (by kernel_rfl) (fun _ _ _ h => h) (yields_of (by rfl) (fun w' _ => ?_)) inferInstance ?_
                rotate_left
                · (go_simp; try with_reducible rfl)
                try simp only [Act.put, List.setIfInBounds_toArray]; try simp only [List.set_cons_succ, List.set_cons_zero]
                refine' takeH (i := 6) (v := _) rfl (by kernel_rfl) (by kernel_rfl) (by kernel_rfl) (fun _ _ _ h => h) (yields_of (by rfl) (fun w' _ => ?_)) inferInstance ?_
                rotate_left
                · (go_simp; try with_reducible rfl)
                try simp only [Act.put, List.setIfInBounds_toArray]; try simp only [List.set_cons_succ, List.set_cons_zero]
                refine' takeH (i := 7) (v := _) rfl (by kernel_rfl) (by kernel_rfl) (by kernel_rfl) (fun _ _ _ h => h) (yields_of (by rfl) (fun w' _ => ?_)) inferInstance ?_
                rotate_left
                · (go_simp; try with_reducible rfl)
                try simp only [Act.put, List.setIfInBounds_toArray]; try simp only [List.set_cons_succ, List.set_cons_zero]
                refine' takeH (i := 8) (v := _) rfl (by kernel_rfl) (by kernel_rfl) (by kernel_rfl) (fun _ _ _ h => h) (yields_of (by rfl) (fun w' _ => ?_)) inferInstance ?_
                rotate_left
                · (first | ((with_reducible apply (ev_loadI (t := 3))); (exact rfl); (exact inferInstance); (exact inferInstance); (exact hipl)) | ((with_reducible apply ev_loadrow); (exact rfl); (exact inferInstance); (exact inferInstance); (first | (with_reducible assumption) | (with_reducible exact H32.size _) | kernel_rfl)) | ((with_reducible apply ev_loadcellN); (exact rfl); (exact inferInstance); (exact inferInstance); (exact rfl)) | ((with_reducible apply (ev_loadint (t := 3))); (exact rfl); (exact inferInstance); (exact inferInstance); (first | (with_reducible assumption) | omega)) | ((with_reducible apply (ev_loadbyte (t := 5))); (exact rfl); (exact inferInstance); (exact inferInstance); (first | (with_reducible assumption) | omega)) | (go_simp; try with_reducible rfl))
                try simp only [Act.put, List.setIfInBounds_toArray]; try simp only [List.set_cons_succ, List.set_cons_zero]
                refine' takeH (i := 9) (v := _) rfl (by kernel_rfl) (by kernel_rfl) (by kernel_rfl) (fun _ _ _ h => h) (yields_of (by rfl) (fun w' _ => ?_)) inferInstance ?_
                rotate_left
                · (go_simp; try with_reducible rfl)
                try simp only [Act.put, List.setIfInBounds_toArray]; try simp only [List.set_cons_succ, List.set_cons_zero]
                refine goH (i := 4) (by kernel_rfl) rfl (fun K_ hK_ => ?_)
                go_simp
                refine (Left_n (HI2.out.calm (stepN (w0 := w8) (w := wd)).chg).r).mono ?_
                rintro e w15 ⟨rfl, _⟩
                refine hK_.out _ _ inferInstance (fun _ => ?_)
                clear hK_ K_
                try simp only [Act.put, List.setIfInBounds_toArray]; try simp only [List.set_cons_succ, List.set_cons_zero]
                refine' takeH (i := 10) (v := _) rfl (by kernel_rfl) (by kernel_rfl) (by kernel_rfl) (fun _ _ _ h => h) (yields_of (by rfl) (fun w' _ => ?_)) inferInstance ?_
                rotate_left
                · (go_simp; try with_reducible rfl)
                try simp only [Act.put, List.setIfInBounds_toArray]; try simp only [List.set_cons_succ, List.set_cons_zero]
                refine' takeH (i := 11) (v := _) rfl (by kernel_rfl) (by kernel_rfl) (by kernel_rfl) (fun _ _ _ h => h) (yields_of (by rfl) (fun w' _ => ?_)) inferInstance ?_
                rotate_left
                · (go_simp; try with_reducible rfl)
                try simp only [Act.put, List.setIfInBounds_toArray]; try simp only [List.set_cons_succ, List.set_cons_zero]
                refine' takeH (i := 12) (v := _) rfl (by kernel_rfl) (by kernel_rfl) (by kernel_rfl) (fun _ _ _ h => h) (yields_of (by rfl) (fun w' _ => ?_)) inferInstance ?_
                rotate_left
                · (go_simp; try with_reducible rfl)
                try simp only [Act.put, List.setIfInBounds_toArray]; try simp only [List.set_cons_succ, List.set_cons_zero]
                refine' takeH (i := 13) (v := _) rfl (by kernel_rfl) (by kernel_rfl) (by kernel_rfl) (fun _ _ _ h => h) (yields_of (by rfl) (fun w' _ => ?_)) inferInstance ?_
                rotate_left
                · (go_simp; try with_reducible rfl)
                try simp only [Act.put, List.setIfInBounds_toArray]; try simp only [List.set_cons_succ, List.set_cons_zero]
                refine' takeH (i := 15) (v := _) rfl (by kernel_rfl) (by kernel_rfl) (by kernel_rfl) (fun _ _ _ h => h) (yields_of (by rfl) (fun w' _ => ?_)) inferInstance ?_
                rotate_left
                · (go_simp; try with_reducible rfl)
                try simp only [Act.put, List.setIfInBounds_toArray]; try simp only [List.set_cons_succ, List.set_cons_zero]
                refine' takeH (i := 16) (v := _) rfl (by kernel_rfl) (by kernel_rfl) (by kernel_rfl) (fun _ _ _ h => h) (yields_of (by rfl) (fun w' _ => ?_)) inferInstance ?_
                rotate_left
                · (go_simp; try with_reducible rfl)
                try simp only [Act.put, List.setIfInBounds_toArray]; try simp only [List.set_cons_succ, List.set_cons_zero]
                refine' takeH (i := 17) (v := _) rfl (by kernel_rfl) (by kernel_rfl) (by kernel_rfl) (fun _ _ _ h => h) (yields_of (by rfl) (fun w' _ => ?_)) inferInstance ?_
                rotate_left
                · (go_simp; try with_reducible rfl)
                try simp only [Act.put, List.setIfInBounds_toArray]; try simp only [List.set_cons_succ, List.set_cons_zero]
                refine' takeH (i := 18) (v := _) rfl (by kernel_rfl) (by kernel_rfl) (by kernel_rfl) (fun _ _ _ h => h) (yields_of (by rfl) (fun w' _ => ?_)) inferInstance ?_
                rotate_left
                · (first | ((with_reducible apply (ev_loadI (t := 3))); (exact rfl); (exact inferInstance); (exact inferInstance); (exact hipl)) | ((with_reducible apply ev_loadrow); (exact rfl); (exact inferInstance); (exact inferInstance); (first | (with_reducible assumption) | (with_reducible exact H32.size _) | kernel_rfl)) | ((with_reducible apply ev_loadcellN); (exact rfl); (exact inferInstance); (exact inferInstance); (exact rfl)) | ((with_reducible apply (ev_loadint (t := 3))); (exact rfl); (exact inferInstance); (exact inferInstance); (first | (with_reducible assumption) | omega)) | ((with_reducible apply (ev_loadbyte (t := 5))); (exact rfl); (exact inferInstance); (exact inferInstance); (first | (with_reducible assumption) | omega)) | (go_simp; try with_reducible rfl))
                try simp only [Act.put, List.setIfInBounds_toArray]; try simp only [List.set_cons_succ, List.set_cons_zero]
                refine goH (i := 14) (by kernel_rfl) rfl (fun K_ hK_ => ?_)
                go_simp
                refine (Good_n (HI2.out.calm (stepN (w0 := w8) (w := w15)).chg).r).mono ?_
                rintro e w16 ⟨rfl, _⟩
                refine hK_.out _ _ inferInstance (fun _ => ?_)
                clear hK_ K_
                try simp only [Act.put, List.setIfInBounds_toArray]; try simp only [List.set_cons_succ, List.set_cons_zero]
                refine' takeH (i := 19) (v := _) rfl (by kernel_rfl) (by kernel_rfl) (by kernel_rfl) (fun _ _ _ h => h) (yields_of (by rfl) (fun w' _ => ?_)) inferInstance ?_
                rotate_left
                · (go_simp; try with_reducible rfl)
                try simp only [Act.put, List.setIfInBounds_toArray]; try simp only [List.set_cons_succ, List.set_cons_zero]
                refine' takeH (i := 20) (v := _) rfl (by kernel_rfl) (by kernel_rfl) (by kernel_rfl) (fun _ _ _ h => h) (yields_of (by rfl) (fun w' _ => ?_)) inferInstance ?_
                rotate_left
                · (go_simp; try with_reducible rfl)
                try simp only [Act.put, List.setIfInBounds_toArray]; try simp only [List.set_cons_succ, List.set_cons_zero]
                refine' takeH (i := 21) (v := _) rfl (by kernel_rfl) (by kernel_rfl) (by kernel_rfl) (fun _ _ _ h => h) (yields_of (by rfl) (fun w' _ => ?_)) inferInstance ?_
                rotate_left
                · (go_simp; try with_reducible rfl)
                try simp only [Act.put, List.setIfInBounds_toArray]; try simp only [List.set_cons_succ, List.set_cons_zero]
                refine' takeH (i := 22) (v := _) rfl (by kernel_rfl) (by kernel_rfl) (by kernel_rfl) (fun _ _ _ h => h) (yields_of (by rfl) (fun w' _ => ?_)) inferInstance ?_
                rotate_left
                · (go_simp; try with_reducible rfl)
                try simp only [Act.put, List.setIfInBounds_toArray]; try simp only [List.set_cons_succ, List.set_cons_zero]
                refine' takeH (i := 24) (v := _) rfl (by kernel_rfl) (by kernel_rfl) (by kernel_rfl) (fun _ _ _ h => h) (yields_of (by rfl) (fun w' _ => ?_)) inferInstance ?_
                rotate_left
                · (go_simp; try with_reducible rfl)
                try simp only [Act.put, List.setIfInBounds_toArray]; try simp only [List.set_cons_succ, List.set_cons_zero]
                refine goH (i := 23) (by kernel_rfl) rfl (fun K_ hK_ => ?_)
                go_simp
                refine (Whole_n (HI2.out.calm (stepN (w0 := w8) (w := w16)).chg).r hl9).mono ?_
                rintro e w17 ⟨rfl, _⟩
                refine hK_.out _ _ inferInstance (fun _ => ?_)
                clear hK_ K_
                try simp only [Act.put, List.setIfInBounds_toArray]; try simp only [List.set_cons_succ, List.set_cons_zero]
                refine goH (i := 25) (by kernel_rfl) rfl (fun K_ hK_ => ?_)
                go_simp
                refine (rrWhole_n (HI2.out.calm (stepN (w0 := w8) (w := w17)).chg).q hl9).mono ?_
                rintro e w18 ⟨rfl, _⟩
                refine hK_.out _ _ inferInstance (fun _ => ?_)
                clear hK_ K_
                try simp only [Act.put, List.setIfInBounds_toArray]; try simp only [List.set_cons_succ, List.set_cons_zero]
                refine' takeH (i := 26) (v := _) rfl (by kernel_rfl) (by kernel_rfl) (by kernel_rfl) (fun _ _ _ h => h) (yields_of (by rfl) (fun w' _ => ?_)) inferInstance ?_
                rotate_left
                · (go_simp; try with_reducible rfl)
                try simp only [Act.put, List.setIfInBounds_toArray]; try simp only [List.set_cons_succ, List.set_cons_zero]
                refine' takeH (i := 27) (v := _) rfl (by kernel_rfl) (by kernel_rfl) (by kernel_rfl) (fun _ _ _ h => h) (yields_of (by rfl) (fun w' _ => ?_)) inferInstance ?_
                rotate_left
                · (go_simp; try with_reducible rfl)
                try simp only [Act.put, List.setIfInBounds_toArray]; try simp only [List.set_cons_succ, List.set_cons_zero]
                refine wpAnyH_done (by kernel_rfl) ?_ _
                go_wp2_with fail
                exact ⟨⟨i + 1, s2, by omega, by go_num, Lib.hid (HI2.out.calm (stepN (w0 := w8) (w := w18)).chg)⟩, by simp [intOf]; omega⟩
      · obtain rfl : i = m := by omega
        have e1 : (i : Int) ≤ i := by omega
        have hfr := HI.out.x
        have HR9 := Lib.hid (HRA.out.later HI.out.chg)
        go_wp2_with fail
        refine (stands_calls AX A n cx c xs _ HN.out (by omega) HI.out.x HR9.out).mono ?_
        rintro e w5 ⟨rfl, k5, hw5⟩
        have HI5 : Hid (TkI w w5 g d q2 d2 AX (n + 1) cx (xs ++ [171]) s) := Lib.hid (HI.out.calm (by rw [hw5]; exact (Chg.refl _ _).drewN k5))
        have hls : s.b.length ≤ 1000000000000 := by have := HI.out.len; omega
        clear hw5 HR9 hfr
        go_wp2_with fail
        refine (Whole_n HI5.out.r hls).mono ?_
        rintro e w6 ⟨rfl, st6⟩
        have HI6 := Lib.hid (HI5.out.calm st6.chg)
        clear HI5 st6
        go_wp2_with fail
        refine (rrWhole_n HI6.out.q hls).mono ?_
        rintro e w7 ⟨rfl, st7⟩
        have HI7 := Lib.hid (HI6.out.calm st7.chg)
        clear HI6 st7
        go_wp2_with fail
        refine (known_calls w7 (HT.out.chg HI7.out.chg (fun h => h))).mono ?_
        rintro e w8 ⟨rfl, c8⟩
        go_wp2_with fail
        go_ret
        exact ⟨rfl, HI7.out.chg.step c8 (fun _ h => h.elim)⟩
end Go.Proofs.YthoipeamdolfgaaDoor
