/- The reference's Join in memory: at, Open, drop. -/
import Derived.Test.YtmeeopfdplaiaaaSgRa
open Go Go.RowKit
namespace Go.Proofs.Ytmeeopfdplaiaaa
/-- the bytes of what is open can be read -/
def OOk (w : World) (l : List OM) : Prop := ∀ o ∈ l, Rd w o.A (bs o.b) ∧ o.b.length ≤ o.c
class HOs (w : World) (l : List OM) : Prop where
  out : OOk w l
class OffO (S : Nat → Prop) (l : List OM) : Prop where
  out : ∀ o ∈ l, Apart S o.A (bs o.b)
instance (l : List OM) : OffO nowhere l := ⟨fun _ _ _ _ _ h => h⟩
instance OffO.born (w : World) (z : Nat) (l : List OM) [b : Born w z] [h : HOs w l] : OffO (only z) l := ⟨fun f hf => by
  have a1 : OffR (only z) f.A (bs f.b) := @OffR.born w z _ _ b ⟨(h.out f hf).1⟩
  exact a1.out⟩
instance HOs.step (S : Nat → Prop) (w w' : World) (l : List OM) [s : Step S w w'] [h : HOs w l] [o : OffO S l] : HOs w' l := ⟨fun f hf => by
  obtain ⟨h1, h2⟩ := h.out f hf
  exact ⟨h1.chg s.chg (o.out f hf), h2⟩⟩
structure XS (w : World) (z : Nat) (X : Nat → Prop) (s : St) : Prop where
  inz : X z
  low : ∀ x, X x → x < w.heap.size
  mem : ∃ l LA lc, Blk w z 38 #[.slice LA l.length lc, .int .i64 s.N] ∧ Own w 90 5 LA l.length lc (cellsOf l) ∧ (∀ ad, LA = some ad → X ad.block) ∧ OOk w l ∧ (∀ o ∈ l, o.b ≠ [] → ∀ ad, o.A = some ad → X ad.block ∧ ad.block ≠ z ∧ ∀ ld, LA = some ld → ad.block ≠ ld.block) ∧ OR s l
theorem XS.calm {T : Nat → Prop} {w w' : World} {z : Nat} {X : Nat → Prop} {s : St} (h : XS w z X s) (hc : Chg T w w') (hT : ∀ x, X x → ¬ T x) : XS w' z X s := by
  obtain ⟨l, LA, lc, hb, ho, hi, hr, hx, hq⟩ := h.mem
  exact ⟨h.inz, fun x hx => Nat.lt_of_lt_of_le (h.low x hx) hc.size, l, LA, lc, hb.chg hc (hT z h.inz), ho.chg hc (fun ad e => hT _ (hi ad e)), hi, fun o ho' => ⟨(hr o ho').1.chg hc (fun hne ad e => hT _ (hx o ho' (fun h0 => hne (by rw [h0]; rfl)) ad e).1), (hr o ho').2⟩, hx, hq⟩
set_option maxRecDepth 100000 in
set_option maxHeartbeats 800000 in
theorem at_calls (id : Int) {w : World} {z : Nat} {l : List OM} {LA : Option Addr} {lc n : Nat} {N : Int} [hb : HB w z 38 #[.slice LA n lc, .int .i64 N]] [ho : HR w LA (cellsOf l)] (hn : l.length = n) (hmax : n ≤ 1000000000) :
    Calls Try.prog 32 #[.pointer (some ⟨z, 0, none⟩), .int .i64 id] w fun e w' => ∃ r : Int, e = .returned (.int .i64 r) ∧ Step nowhere w w' ∧ ((r = -1 ∧ ∀ i, i < l.length → (gt l i).id ≠ id) ∨ ∃ i : Nat, r = (i : Int) ∧ i < l.length ∧ (gt l i).id = id) := by
  go_enter Try.func32, Try.ntmps32
  go_wp2_with fail
  go_loopw [5] (fun iv wr => ∃ k : Nat, k ≤ n ∧ iv = .int .i64 (k : Int) ∧ Step nowhere w wr ∧ Hid (∀ i, i < k → (gt l i).id ≠ id)) (fun iv _ => n - (intOf iv).toNat)
  case atStart => exact ⟨0, Nat.zero_le _, rfl, stepN, Lib.hid (fun i hi => absurd hi (by omega))⟩
  case round =>
    obtain ⟨k, hk, rfl, _, HK⟩ := hrel
    by_cases hlt : k < n
    · have hltI : (k : Int) < n := by omega
      have hkl : k < l.length := by omega
      by_cases he : (gt l k).id = id
      · have be : ((gt l k).id == id) = true := beqT he
        have HE := Lib.hid he
        clear he
        go_wp2_with (first | ((with_reducible apply wpl_loadrow); exact rfl; infer_instance; infer_instance; (first | with_reducible assumption | (with_reducible exact enc_sz _ rfl) | kernel_rfl)) | ((with_reducible apply wpl_loadcellN); exact rfl; infer_instance; exact rfl) | ((with_reducible apply (wpl_indexE (α := OM) (t := 36))); exact rfl; exact rfl; infer_instance; infer_instance; (first | with_reducible assumption | omega | (focus (simp; done)) | (focus (simp; omega; done)) | decide); exact rfl; (decide); (first | with_reducible assumption | omega | (focus (simp; done)) | (focus (simp; omega; done)) | decide)) | ((with_reducible apply (wpl_indexE0 (α := OM) (t := 36))); exact rfl; infer_instance; infer_instance; (first | with_reducible assumption | omega | (focus (simp; done)) | (focus (simp; omega; done)) | decide); exact rfl; (decide); (first | with_reducible assumption | omega | (focus (simp; done)) | (focus (simp; omega; done)) | decide)) | ((with_reducible apply (wpl_loadE (α := OM) (t := 90))); infer_instance; exact rfl; infer_instance; exact rfl; (decide); (first | with_reducible assumption | omega | (focus (simp; done)) | (focus (simp; omega; done)) | decide)) | ((with_reducible apply (wpl_fieldE (t := 90))); (exact Try.underlying90); exact rfl; (kernel_rfl); exact rfl; infer_instance; (exact cells_pos (by decide) (by omega))) | ((with_reducible apply (wpl_loadF (α := OM))); infer_instance; exact rfl; infer_instance; exact rfl; (first | with_reducible assumption | omega | (focus (simp; done)) | (focus (simp; omega; done)) | decide); exact rfl) | ((with_reducible apply (wpl_loadint (t := 3))); exact rfl; infer_instance; infer_instance; (first | with_reducible assumption | omega)) | ((with_reducible apply (wpl_loadbyte (t := 5))); exact rfl; infer_instance; infer_instance; (first | with_reducible assumption | omega)))
        go_ret
        exact ⟨(k : Int), rfl, stepN, .inr ⟨k, rfl, hkl, HE.out⟩⟩
      · have be : ((gt l k).id == id) = false := beqF he
        have HE := Lib.hid (show ∀ i, i < k + 1 → (gt l i).id ≠ id from fun i hi => by
          rcases Nat.lt_or_ge i k with h | h
          · exact HK.out i h
          · obtain rfl : i = k := by omega
            exact he)
        clear he
        go_wp2_with (first | ((with_reducible apply wpl_loadrow); exact rfl; infer_instance; infer_instance; (first | with_reducible assumption | (with_reducible exact enc_sz _ rfl) | kernel_rfl)) | ((with_reducible apply wpl_loadcellN); exact rfl; infer_instance; exact rfl) | ((with_reducible apply (wpl_indexE (α := OM) (t := 36))); exact rfl; exact rfl; infer_instance; infer_instance; (first | with_reducible assumption | omega | (focus (simp; done)) | (focus (simp; omega; done)) | decide); exact rfl; (decide); (first | with_reducible assumption | omega | (focus (simp; done)) | (focus (simp; omega; done)) | decide)) | ((with_reducible apply (wpl_indexE0 (α := OM) (t := 36))); exact rfl; infer_instance; infer_instance; (first | with_reducible assumption | omega | (focus (simp; done)) | (focus (simp; omega; done)) | decide); exact rfl; (decide); (first | with_reducible assumption | omega | (focus (simp; done)) | (focus (simp; omega; done)) | decide)) | ((with_reducible apply (wpl_loadE (α := OM) (t := 90))); infer_instance; exact rfl; infer_instance; exact rfl; (decide); (first | with_reducible assumption | omega | (focus (simp; done)) | (focus (simp; omega; done)) | decide)) | ((with_reducible apply (wpl_fieldE (t := 90))); (exact Try.underlying90); exact rfl; (kernel_rfl); exact rfl; infer_instance; (exact cells_pos (by decide) (by omega))) | ((with_reducible apply (wpl_loadF (α := OM))); infer_instance; exact rfl; infer_instance; exact rfl; (first | with_reducible assumption | omega | (focus (simp; done)) | (focus (simp; omega; done)) | decide); exact rfl) | ((with_reducible apply (wpl_loadint (t := 3))); exact rfl; infer_instance; infer_instance; (first | with_reducible assumption | omega)) | ((with_reducible apply (wpl_loadbyte (t := 5))); exact rfl; infer_instance; infer_instance; (first | with_reducible assumption | omega)))
        exact ⟨⟨k + 1, by omega, by simp, stepN, HE⟩, by simp [intOf]; omega⟩
    · have hltI : ¬ (k : Int) < n := by omega
      obtain rfl : k = n := by omega
      go_wp2_with (first | ((with_reducible apply wpl_loadrow); exact rfl; infer_instance; infer_instance; (first | with_reducible assumption | (with_reducible exact enc_sz _ rfl) | kernel_rfl)) | ((with_reducible apply wpl_loadcellN); exact rfl; infer_instance; exact rfl) | ((with_reducible apply (wpl_indexE (α := OM) (t := 36))); exact rfl; exact rfl; infer_instance; infer_instance; (first | with_reducible assumption | omega | (focus (simp; done)) | (focus (simp; omega; done)) | decide); exact rfl; (decide); (first | with_reducible assumption | omega | (focus (simp; done)) | (focus (simp; omega; done)) | decide)) | ((with_reducible apply (wpl_indexE0 (α := OM) (t := 36))); exact rfl; infer_instance; infer_instance; (first | with_reducible assumption | omega | (focus (simp; done)) | (focus (simp; omega; done)) | decide); exact rfl; (decide); (first | with_reducible assumption | omega | (focus (simp; done)) | (focus (simp; omega; done)) | decide)) | ((with_reducible apply (wpl_loadE (α := OM) (t := 90))); infer_instance; exact rfl; infer_instance; exact rfl; (decide); (first | with_reducible assumption | omega | (focus (simp; done)) | (focus (simp; omega; done)) | decide)) | ((with_reducible apply (wpl_fieldE (t := 90))); (exact Try.underlying90); exact rfl; (kernel_rfl); exact rfl; infer_instance; (exact cells_pos (by decide) (by omega))) | ((with_reducible apply (wpl_loadF (α := OM))); infer_instance; exact rfl; infer_instance; exact rfl; (first | with_reducible assumption | omega | (focus (simp; done)) | (focus (simp; omega; done)) | decide); exact rfl) | ((with_reducible apply (wpl_loadint (t := 3))); exact rfl; infer_instance; infer_instance; (first | with_reducible assumption | omega)) | ((with_reducible apply (wpl_loadbyte (t := 5))); exact rfl; infer_instance; infer_instance; (first | with_reducible assumption | omega)))
      go_ret
      exact ⟨-1, rfl, stepN, .inl ⟨rfl, fun i hi => HK.out i (by omega)⟩⟩
theorem run_emptyO (w : World) : (Instr.buildSlice 36 0 #[]).run Try.prog w = .ok (.slice (some ⟨w.heap.size, 0, none⟩) 0 0) (w.alloc (.cells #[] 90)) := by kernel_rfl
theorem HO.ofEmptyO (w : World) (g : Nat) (e : TypeId) [h : HB w g e #[]] : HO w e 5 (some ⟨g, 0, none⟩) 0 0 (cellsOf ([] : List OM)) :=
  ⟨Own.of_blk h.out (Nat.le_refl _) (Nat.zero_le _) (by simp) (by simp [cellsOf])⟩
theorem ownO_no_blk {w : World} {e : TypeId} {n c sz : Nat} {A : Option Addr} {xs : List Value} (h : Own w e sz A n c xs) {z : Nat} {t : TypeId} {cs : Array Value} (hb : Blk w z t cs) (hne : e ≠ t) : ∀ ad, A = some ad → ad.block ≠ z := by
  intro ad ha
  rcases h.form with ⟨e0, _⟩ | ⟨g, cur, e1, hg, _⟩
  · rw [e0] at ha; cases ha
  · rw [e1] at ha
    injection ha with ha
    subst ha
    exact hg.ne_ hb hne
theorem own_cap {w : World} {e : TypeId} {n c sz : Nat} {A : Option Addr} {xs : List Value} (h : Own w e sz A n c xs) : n ≤ c := by
  rcases h.form with ⟨_, h1, h2, _⟩ | ⟨_, _, _, _, h1, _⟩ <;> omega
theorem mem_cut {l : List OM} {i : Nat} {o : OM} (h : o ∈ cutL l i) : o ∈ l := by
  rcases List.mem_append.1 h with h | h
  · exact List.mem_of_mem_take h
  · exact List.mem_of_mem_drop h
/-- what is left of a Join's row when it has been laid anew -/
theorem XS.anew {w w' : World} {z : Nat} {X : Nat → Prop} {s' : St} {l l' : List OM} {LA LA' : Option Addr} {lc' : Nat} {T : Nat → Prop} (hz : X z) (hlow : ∀ x, X x → x < w.heap.size) (hc : Chg T w w') (hr : OOk w l) (hx : ∀ o ∈ l, o.b ≠ [] → ∀ ad, o.A = some ad → X ad.block ∧ ad.block ≠ z ∧ ∀ ld, LA = some ld → ad.block ≠ ld.block)
    (hT : ∀ o ∈ l, o.b ≠ [] → ∀ ad, o.A = some ad → ¬ T ad.block) (hl : ∀ o ∈ l', o ∈ l)
    (hB : Blk w' z 38 #[.slice LA' l'.length lc', .int .i64 s'.N]) (hO : Own w' 90 5 LA' l'.length lc' (cellsOf l')) (hN : ∀ ad, LA' = some ad → w.heap.size ≤ ad.block) (hR : OR s' l') :
    XS w' z (fun x => X x ∨ (w.heap.size ≤ x ∧ x < w'.heap.size)) s' := by
  refine ⟨.inl hz, fun x h => h.elim (fun h => Nat.lt_of_lt_of_le (hlow x h) hc.size) (fun h => h.2), l', LA', lc', hB, hO, fun ad e => .inr ⟨hN ad e, hO.lt e⟩, fun o ho => ⟨(hr o (hl o ho)).1.chg hc (fun hne ad e => hT o (hl o ho) (fun h0 => hne (by rw [h0]; rfl)) ad e), (hr o (hl o ho)).2⟩, fun o ho hb ad e => ?_, hR⟩
  obtain ⟨h1, h2, _⟩ := hx o (hl o ho) hb ad e
  refine ⟨.inl h1, h2, fun ld e2 h3 => ?_⟩
  have := hN ld e2
  have := hlow _ h1
  omega
instance (priority := 800) Into.rowN_ (w0 w : World) (A : Option Addr) (S : Nat → Prop) [b : NewA w A] [n : SzLe w0 w] : Into w0 (rowOf A) S := ⟨fun x hx h => by
  obtain ⟨ad, e, rfl⟩ := h
  have := b.out ad e
  have := n.out
  omega⟩
theorem XS.cutDone {w w' : World} {z : Nat} {X : Nat → Prop} {s s' : St} (h : XS w z X s) {l : List OM} {LA : Option Addr} {n i : Nat} (hn : l.length = n) (hil : i < l.length) (hr : OOk w l) (hx : ∀ o ∈ l, o.b ≠ [] → ∀ ad, o.A = some ad → X ad.block ∧ ad.block ≠ z ∧ ∀ ld, LA = some ld → ad.block ≠ ld.block) (hC : Chg (only z) w w') {A2 : Option Addr} {c2 : Nat}
    (hB : HB w' z 38 #[.slice A2 (0 + i + (n - (i + 1))) c2, .int .i64 s'.N]) (hO : HO w' 90 5 A2 (0 + i + (n - (i + 1))) c2 (cellsOf ([] ++ l.take i ++ l.drop (i + 1)))) (hN : NewA w A2) (hR : OR s' (cutL l i)) :
    ∃ X', XS w' z X' s' ∧ Chg (only z) w w' ∧ ∀ x, X' x → X x ∨ w.heap.size ≤ x := by
  have hlen : 0 + i + (n - (i + 1)) = (cutL l i).length := by rw [cut_len l i hil]; omega
  rw [hlen] at hB hO
  exact ⟨_, XS.anew h.inz h.low hC hr hx (fun o ho hb ad e he => (hx o ho hb ad e).2.1 he) (fun o ho => mem_cut ho) hB.out hO.out hN.out hR, hC, fun x hx => hx.elim .inl (fun h => .inr h.1)⟩
set_option maxRecDepth 100000 in
set_option maxHeartbeats 1600000 in
theorem xdropTrue_calls (id : Int) {w : World} {z : Nat} {X : Nat → Prop} {s : St} (h : XS w z X s) (hN : s.N ≤ 1000000000) (hm : s.m ≤ 1000000) :
    Calls Try.prog 33 #[.pointer (some ⟨z, 0, none⟩), .int .i64 id, .bool true] w fun e w' => e = .returned (.tuple #[]) ∧ ∃ X', XS w' z X' (s.drop id) ∧ Chg (only z) w w' ∧ ∀ x, X' x → X x ∨ w.heap.size ≤ x := by
  obtain ⟨l, LA, lc, hb, ho, hi, hr, hx, hq⟩ := h.mem
  obtain ⟨n, hn⟩ : ∃ n, l.length = n := ⟨_, rfl⟩
  rw [hn] at hb ho
  have hB : HB w z 38 #[.slice LA n lc, .int .i64 s.N] := ⟨hb⟩
  have hO : HO w 90 5 LA n lc (cellsOf l) := ⟨ho⟩
  have hn2 : n ≤ 1000000 := by rw [← hn, hq.m]; exact hm
  have hcap : n ≤ lc := own_cap ho
  have oz : OffA (only z) LA := ⟨fun ad e hk => ownO_no_blk ho hb (by decide) ad e hk⟩
  go_enter Try.func33, Try.ntmps33
  go_wp2_with fail
  refine (at_calls (l := l) id hn (by omega)).mono ?_
  rintro e w1 ⟨r, rfl, hs1, hat⟩
  have hc1 : Chg nowhere w w1 := hs1.chg
  rcases hat with ⟨rfl, hno⟩ | ⟨i, rfl, hil, hid⟩
  · go_wp2_with fail
    refine bodyPost_ret (results_none rfl _ _ _) rfl ?_
    have hG := hq.no id hno
    refine ⟨rfl, X, ?_, hc1.mono (fun _ _ hk => hk.elim), fun _ hx => .inl hx⟩
    rw [drop_none hG]
    exact h.calm hc1 (fun _ _ hk => hk)
  · have hOK := hq.at_ i hil
    rw [hid] at hOK
    have hR0 := hq.cut hil
    rw [hid] at hR0
    have hi0 : ¬ (i : Int) < 0 := by omega
    have F1 := Lib.hid (show IntKind.i64.wrap ((i : Int) + 1) = ((i + 1 : Nat) : Int) by rw [IntKind.wrap_i64]; omega)
    have hl1 : (l.take i).length = i := by rw [List.length_take]; omega
    have hl2 : (l.drop (i + 1)).length = n - (i + 1) := by rw [List.length_drop, hn]
    go_wp2_with fail
    refine wp_region_N ((only z)) (by kernel_rfl) (fun wd _ _ => ?_)
    refine' takeH (i := 0) (v := _) rfl (by kernel_rfl) (by kernel_rfl) (by kernel_rfl) (fun _ _ _ h => h) (yields_of (by rfl) (fun w' _ => ?_)) inferInstance ?_
    rotate_left
    · (go_simp; try with_reducible rfl)
    try simp only [Act.put, sA]; try simp only [sB, sC]
    refine' takeH (i := 2) (v := _) rfl (by kernel_rfl) (by kernel_rfl) (by kernel_rfl) (fun _ _ _ h => h) (yields_of (by rfl) (fun w' _ => ?_)) inferInstance ?_
    rotate_left
    · (go_simp; try with_reducible rfl)
    try simp only [Act.put, sA]; try simp only [sB, sC]
    refine' takeH (i := 3) (v := _) rfl (by kernel_rfl) (by kernel_rfl) (by kernel_rfl) (fun _ _ _ h => h) (yields_of (by rfl) (fun w' _ => ?_)) inferInstance ?_
    rotate_left
    · (go_simp; try with_reducible rfl)
    try simp only [Act.put, sA]; try simp only [sB, sC]
    refine' takeH (i := 4) (v := _) rfl (by kernel_rfl) (by kernel_rfl) (by kernel_rfl) (fun _ _ _ h => h) (yields_of (by rfl) (fun w' _ => ?_)) inferInstance ?_
    rotate_left
    · (first | ((with_reducible apply (ev_fieldE (t := 90))); (exact Try.underlying90); exact rfl; (kernel_rfl); exact rfl; infer_instance; (exact cells_pos (by decide) (by omega))) | (go_simp; try with_reducible rfl))
    try simp only [Act.put, sA]; try simp only [sB, sC]
    refine' takeH (i := 6) (v := _) rfl (by kernel_rfl) (by kernel_rfl) (by kernel_rfl) (fun _ _ _ h => h) (yields_of (by rfl) (fun w' _ => ?_)) inferInstance ?_
    rotate_left
    · (go_simp; try with_reducible rfl)
    try simp only [Act.put, sA]; try simp only [sB, sC]
    refine' takeH (i := 9) (v := _) rfl (by kernel_rfl) (by kernel_rfl) (by kernel_rfl) (fun _ _ _ h => h) (yields_of (by rfl) (fun w' _ => ?_)) inferInstance ?_
    rotate_left
    · (go_simp; try with_reducible rfl)
    try simp only [Act.put, sA]; try simp only [sB, sC]
    refine' takeH (i := 10) (v := _) rfl (by kernel_rfl) (by kernel_rfl) (by kernel_rfl) (fun _ _ _ h => h) (yields_of (by rfl) (fun w' _ => ?_)) inferInstance ?_
    rotate_left
    · (go_simp; try with_reducible rfl)
    try simp only [Act.put, sA]; try simp only [sB, sC]
    refine' takeH (i := 11) (v := _) rfl (by kernel_rfl) (by kernel_rfl) (by kernel_rfl) (fun _ _ _ h => h) (yields_of (by rfl) (fun w' _ => ?_)) inferInstance ?_
    rotate_left
    · (first | ((with_reducible apply (ev_fieldE (t := 90))); (exact Try.underlying90); exact rfl; (kernel_rfl); exact rfl; infer_instance; (exact cells_pos (by decide) (by omega))) | (go_simp; try with_reducible rfl))
    try simp only [Act.put, sA]; try simp only [sB, sC]
    refine' takeH (i := 13) (v := _) rfl (by kernel_rfl) (by kernel_rfl) (by kernel_rfl) (fun _ _ _ h => h) (yields_of (by rfl) (fun w' _ => ?_)) inferInstance ?_
    rotate_left
    · (go_simp; try with_reducible rfl)
    try simp only [Act.put, sA]; try simp only [sB, sC]
    refine' takeH (i := 14) (v := _) rfl (by kernel_rfl) (by kernel_rfl) (by kernel_rfl) (fun _ _ _ h => h) (yields_of (by rfl) (fun w' _ => ?_)) inferInstance ?_
    rotate_left
    · (go_simp; try with_reducible rfl)
    try simp only [Act.put, sA]; try simp only [sB, sC]
    try simp only [F1.out]
    refine wpAnyH_ready (rs := [1, 5, 12]) (by kernel_rfl) (by simp) (AllReadyH.cons rfl (fun K_ hK_ => ?br1_1) (AllReadyH.cons rfl (fun K_ hK_ => ?br1_5) (AllReadyH.cons rfl (fun K_ hK_ => ?br1_12) AllReadyH.nil)))
    case' br1_1 =>
      rw [if_pos (by kernel_rfl)]
      refine wpr_of_list ?_
      (first | ((with_reducible apply (stop_dst (dst := some 13))); (try simp only [Act.put, sA, sB, sC]); ((with_reducible apply (wpl_bslice (dst := some 13))); (exact run_emptyO _); intro zn wb _ _ _)) | ((with_reducible apply (stop_dst (dst := some 20))); (with_reducible apply (wpl_appendR (α := OM))); exact rfl; exact rfl; infer_instance; (exact HO.ofEmptyO _ zn _); (exact HR.takeR (l := l) inferInstance i); exact rfl; (exact hl1); (omega); (decide); (decide); intro A1 c1 wa1 _ ho1 g1 hcap1) | ((with_reducible apply (stop_dst (dst := some 28))); (with_reducible apply (wpl_appendR (α := OM))); exact rfl; exact rfl; infer_instance; infer_instance; (exact HR.cutR (l := l) (n := n) inferInstance hn hcap (i + 1) 5 rfl); exact rfl; (exact hl2); (omega); (decide); (decide); intro A2 c2 wa2 _ ho2 g2 hcap2))
      refine wpList_nil ?_
      unfold onlyN
      refine hK_.out _ _ inferInstance (fun _ => ?_)
      clear hK_ K_
      try simp only [Act.put, sA]; try simp only [sB, sC]
      refine wpAnyH_ready (rs := [5, 12]) (by kernel_rfl) (by simp) (AllReadyH.cons rfl (fun K_ hK_ => ?br2_5) (AllReadyH.cons rfl (fun K_ hK_ => ?br2_12) AllReadyH.nil))
      case' br2_5 =>
        rw [if_pos (by kernel_rfl)]
        refine wpr_of_list ?_
        (first | ((with_reducible apply (stop_dst (dst := some 13))); (try simp only [Act.put, sA, sB, sC]); ((with_reducible apply (wpl_bslice (dst := some 13))); (exact run_emptyO _); intro zn wb _ _ _)) | ((with_reducible apply (stop_dst (dst := some 20))); (with_reducible apply (wpl_appendR (α := OM))); exact rfl; exact rfl; infer_instance; (exact HO.ofEmptyO _ zn _); (exact HR.takeR (l := l) inferInstance i); exact rfl; (exact hl1); (omega); (decide); (decide); intro A1 c1 wa1 _ ho1 g1 hcap1) | ((with_reducible apply (stop_dst (dst := some 28))); (with_reducible apply (wpl_appendR (α := OM))); exact rfl; exact rfl; infer_instance; infer_instance; (exact HR.cutR (l := l) (n := n) inferInstance hn hcap (i + 1) 5 rfl); exact rfl; (exact hl2); (omega); (decide); (decide); intro A2 c2 wa2 _ ho2 g2 hcap2) | ((with_reducible apply wpl_loadrow); exact rfl; infer_instance; infer_instance; (first | with_reducible assumption | (with_reducible exact enc_sz _ rfl) | kernel_rfl)) | ((with_reducible apply wpl_loadcellN); exact rfl; infer_instance; exact rfl) | ((with_reducible apply (wpl_loadE (α := OM) (t := 90))); infer_instance; exact rfl; infer_instance; exact rfl; (decide); (first | with_reducible assumption | omega | (focus (simp; done)) | (focus (simp; omega; done)) | decide)) | ((with_reducible apply (wpl_loadF (α := OM))); infer_instance; exact rfl; infer_instance; exact rfl; (first | with_reducible assumption | omega | (focus (simp; done)) | (focus (simp; omega; done)) | decide); exact rfl) | ((with_reducible apply (wpl_loadint (t := 3))); exact rfl; infer_instance; infer_instance; (first | with_reducible assumption | omega)) | ((with_reducible apply (wpl_loadbyte (t := 5))); exact rfl; infer_instance; infer_instance; (first | with_reducible assumption | omega)))
        refine wpList_nil ?_
        unfold onlyN
        refine hK_.out _ _ inferInstance (fun _ => ?_)
        clear hK_ K_
        try simp only [Act.put, sA]; try simp only [sB, sC]
        refine' takeH (i := 7) (v := _) rfl (by kernel_rfl) (by kernel_rfl) (by kernel_rfl) (fun _ _ _ h => h) (yields_of (by rfl) (fun w' _ => ?_)) inferInstance ?_
        rotate_left
        · (first | ((with_reducible apply ev_sl_lh); exact rfl; exact rfl; exact rfl; infer_instance; (first | with_reducible assumption | omega); (first | with_reducible assumption | omega)) | ((with_reducible apply ev_sl_h); exact rfl; exact rfl; infer_instance; (first | with_reducible assumption | omega)) | ((with_reducible apply ev_sl_l); exact rfl; exact rfl; infer_instance; (first | with_reducible assumption | omega)) | (go_simp; try with_reducible rfl))
        try simp only [Act.put, sA]; try simp only [sB, sC]
        refine wpAnyH_ready (rs := [8, 12]) (by kernel_rfl) (by simp) (AllReadyH.cons rfl (fun K_ hK_ => ?br3_8) (AllReadyH.cons rfl (fun K_ hK_ => ?br3_12) AllReadyH.nil))
        case' br3_8 =>
          rw [if_pos (by kernel_rfl)]
          refine wpr_of_list ?_
          (first | ((with_reducible apply (stop_dst (dst := some 13))); (try simp only [Act.put, sA, sB, sC]); ((with_reducible apply (wpl_bslice (dst := some 13))); (exact run_emptyO _); intro zn wb _ _ _)) | ((with_reducible apply (stop_dst (dst := some 20))); (with_reducible apply (wpl_appendR (α := OM))); exact rfl; exact rfl; infer_instance; (exact HO.ofEmptyO _ zn _); (exact HR.takeR (l := l) inferInstance i); exact rfl; (exact hl1); (omega); (decide); (decide); intro A1 c1 wa1 _ ho1 g1 hcap1) | ((with_reducible apply (stop_dst (dst := some 28))); (with_reducible apply (wpl_appendR (α := OM))); exact rfl; exact rfl; infer_instance; infer_instance; (exact HR.cutR (l := l) (n := n) inferInstance hn hcap (i + 1) 5 rfl); exact rfl; (exact hl2); (omega); (decide); (decide); intro A2 c2 wa2 _ ho2 g2 hcap2) | ((with_reducible apply wpl_appendB); exact rfl; exact rfl; infer_instance; (first | exact inferInstance | exact ⟨Own.nil _ _ _⟩); infer_instance; (first | with_reducible assumption | (with_reducible exact H32.len _) | (focus (simp; done)) | omega); (first | with_reducible assumption | omega); intro A' c' wa _ _ _ hcap))
          refine wpList_nil ?_
          unfold onlyN
          refine hK_.out _ _ inferInstance (fun _ => ?_)
          clear hK_ K_
          try simp only [Act.put, sA]; try simp only [sB, sC]
          refine goH (i := 12) (by kernel_rfl) rfl (fun K_ hK_ => ?_)
          rw [if_pos (by kernel_rfl)]
          refine wpr_of_list ?_
          (first | ((with_reducible apply (stop_dst (dst := some 13))); (try simp only [Act.put, sA, sB, sC]); ((with_reducible apply (wpl_bslice (dst := some 13))); (exact run_emptyO _); intro zn wb _ _ _)) | ((with_reducible apply (stop_dst (dst := some 20))); (with_reducible apply (wpl_appendR (α := OM))); exact rfl; exact rfl; infer_instance; (exact HO.ofEmptyO _ zn _); (exact HR.takeR (l := l) inferInstance i); exact rfl; (exact hl1); (omega); (decide); (decide); intro A1 c1 wa1 _ ho1 g1 hcap1) | ((with_reducible apply (stop_dst (dst := some 28))); (with_reducible apply (wpl_appendR (α := OM))); exact rfl; exact rfl; infer_instance; infer_instance; (exact HR.cutR (l := l) (n := n) inferInstance hn hcap (i + 1) 5 rfl); exact rfl; (exact hl2); (omega); (decide); (decide); intro A2 c2 wa2 _ ho2 g2 hcap2) | ((with_reducible apply wpl_loadrow); exact rfl; infer_instance; infer_instance; (first | with_reducible assumption | (with_reducible exact enc_sz _ rfl) | kernel_rfl)) | ((with_reducible apply wpl_loadcellN); exact rfl; infer_instance; exact rfl) | ((with_reducible apply (wpl_loadE (α := OM) (t := 90))); infer_instance; exact rfl; infer_instance; exact rfl; (decide); (first | with_reducible assumption | omega | (focus (simp; done)) | (focus (simp; omega; done)) | decide)) | ((with_reducible apply (wpl_loadF (α := OM))); infer_instance; exact rfl; infer_instance; exact rfl; (first | with_reducible assumption | omega | (focus (simp; done)) | (focus (simp; omega; done)) | decide); exact rfl) | ((with_reducible apply (wpl_loadint (t := 3))); exact rfl; infer_instance; infer_instance; (first | with_reducible assumption | omega)) | ((with_reducible apply (wpl_loadbyte (t := 5))); exact rfl; infer_instance; infer_instance; (first | with_reducible assumption | omega)))
          refine wpList_nil ?_
          unfold onlyN
          refine hK_.out _ _ inferInstance (fun _ => ?_)
          clear hK_ K_
          try simp only [Act.put, sA]; try simp only [sB, sC]
          refine' takeH (i := 15) (v := _) rfl (by kernel_rfl) (by kernel_rfl) (by kernel_rfl) (fun _ _ _ h => h) (yields_of (by rfl) (fun w' _ => ?_)) inferInstance ?_
          rotate_left
          · (first | ((with_reducible apply ev_sl_lh); exact rfl; exact rfl; exact rfl; infer_instance; (first | with_reducible assumption | omega); (first | with_reducible assumption | omega)) | ((with_reducible apply ev_sl_h); exact rfl; exact rfl; infer_instance; (first | with_reducible assumption | omega)) | ((with_reducible apply ev_sl_l); exact rfl; exact rfl; infer_instance; (first | with_reducible assumption | omega)) | (go_simp; try with_reducible rfl))
          try simp only [Act.put, sA]; try simp only [sB, sC]
          refine goH (i := 16) (by kernel_rfl) rfl (fun K_ hK_ => ?_)
          rw [if_pos (by kernel_rfl)]
          refine wpr_of_list ?_
          (first | ((with_reducible apply (stop_dst (dst := some 13))); (try simp only [Act.put, sA, sB, sC]); ((with_reducible apply (wpl_bslice (dst := some 13))); (exact run_emptyO _); intro zn wb _ _ _)) | ((with_reducible apply (stop_dst (dst := some 20))); (with_reducible apply (wpl_appendR (α := OM))); exact rfl; exact rfl; infer_instance; (exact HO.ofEmptyO _ zn _); (exact HR.takeR (l := l) inferInstance i); exact rfl; (exact hl1); (omega); (decide); (decide); intro A1 c1 wa1 _ ho1 g1 hcap1) | ((with_reducible apply (stop_dst (dst := some 28))); (with_reducible apply (wpl_appendR (α := OM))); exact rfl; exact rfl; infer_instance; infer_instance; (exact HR.cutR (l := l) (n := n) inferInstance hn hcap (i + 1) 5 rfl); exact rfl; (exact hl2); (omega); (decide); (decide); intro A2 c2 wa2 _ ho2 g2 hcap2) | ((with_reducible apply wpl_appendB); exact rfl; exact rfl; infer_instance; (first | exact inferInstance | exact ⟨Own.nil _ _ _⟩); infer_instance; (first | with_reducible assumption | (with_reducible exact H32.len _) | (focus (simp; done)) | omega); (first | with_reducible assumption | omega); intro A' c' wa _ _ _ hcap))
          refine wpList_nil ?_
          unfold onlyN
          refine hK_.out _ _ inferInstance (fun _ => ?_)
          clear hK_ K_
          try simp only [Act.put, sA]; try simp only [sB, sC]
          refine' takeH (i := 17) (v := _) rfl (by kernel_rfl) (by kernel_rfl) (by kernel_rfl) (fun _ _ _ h => h) (yields_of (by rfl) (fun w' _ => ?_)) inferInstance ?_
          rotate_left
          · (go_simp; try with_reducible rfl)
          try simp only [Act.put, sA]; try simp only [sB, sC]
          refine' takeH (i := 18) (v := _) rfl (by kernel_rfl) (by kernel_rfl) (by kernel_rfl) (fun _ _ _ h => h) (yields_of (by rfl) (fun w' _ => ?_)) inferInstance ?_
          rotate_left
          · (first | ((with_reducible apply (ev_fieldE (t := 90))); (exact Try.underlying90); exact rfl; (kernel_rfl); exact rfl; infer_instance; (exact cells_pos (by decide) (by omega))) | (go_simp; try with_reducible rfl))
          try simp only [Act.put, sA]; try simp only [sB, sC]
          refine goH (i := 19) (by kernel_rfl) rfl (fun K_ hK_ => ?_)
          rw [if_pos (by kernel_rfl)]
          refine wpr_of_list ?_
          (first | ((with_reducible apply (stop_dst (dst := some 13))); (try simp only [Act.put, sA, sB, sC]); ((with_reducible apply (wpl_bslice (dst := some 13))); (exact run_emptyO _); intro zn wb _ _ _)) | ((with_reducible apply (stop_dst (dst := some 20))); (with_reducible apply (wpl_appendR (α := OM))); exact rfl; exact rfl; infer_instance; (exact HO.ofEmptyO _ zn _); (exact HR.takeR (l := l) inferInstance i); exact rfl; (exact hl1); (omega); (decide); (decide); intro A1 c1 wa1 _ ho1 g1 hcap1) | ((with_reducible apply (stop_dst (dst := some 28))); (with_reducible apply (wpl_appendR (α := OM))); exact rfl; exact rfl; infer_instance; infer_instance; (exact HR.cutR (l := l) (n := n) inferInstance hn hcap (i + 1) 5 rfl); exact rfl; (exact hl2); (omega); (decide); (decide); intro A2 c2 wa2 _ ho2 g2 hcap2) | ((with_reducible apply wpl_storerow); exact rfl; exact rfl; infer_instance; infer_instance; (first | with_reducible assumption | (with_reducible exact enc_sz _ rfl) | kernel_rfl); (first | with_reducible assumption | (with_reducible exact enc_sz _ rfl) | kernel_rfl); (first | (with_reducible exact u8s_one _) | with_reducible assumption | (with_reducible exact enc_one _) | kernel_rfl); intro ws _ _) | ((with_reducible apply wpl_storecell); exact rfl; exact rfl; infer_instance; exact rfl; (first | with_reducible assumption | omega | (focus (simp; done)) | (focus (simp; omega; done)) | decide); intro ws _ _) | ((with_reducible apply (wpl_storeint (t := 3))); exact rfl; exact rfl; infer_instance; (first | with_reducible assumption | omega); intro ws _ _) | ((with_reducible apply (wpl_storebyte (t := 5))); exact rfl; exact rfl; infer_instance; (first | with_reducible assumption | omega | (focus (simp; done)) | (focus (simp; omega; done)) | decide); (constructor <;> omega); intro ws _ _))
          refine wpList_nil ?_
          unfold onlyN
          refine hK_.out _ _ inferInstance (fun _ => ?_)
          clear hK_ K_
          try simp only [Act.put]
          refine wpAnyH_done (by kernel_rfl) ?_ _
        case' br3_12 =>
          rw [if_pos (by kernel_rfl)]
          refine wpr_of_list ?_
          (first | ((with_reducible apply (stop_dst (dst := some 13))); (try simp only [Act.put, sA, sB, sC]); ((with_reducible apply (wpl_bslice (dst := some 13))); (exact run_emptyO _); intro zn wb _ _ _)) | ((with_reducible apply (stop_dst (dst := some 20))); (with_reducible apply (wpl_appendR (α := OM))); exact rfl; exact rfl; infer_instance; (exact HO.ofEmptyO _ zn _); (exact HR.takeR (l := l) inferInstance i); exact rfl; (exact hl1); (omega); (decide); (decide); intro A1 c1 wa1 _ ho1 g1 hcap1) | ((with_reducible apply (stop_dst (dst := some 28))); (with_reducible apply (wpl_appendR (α := OM))); exact rfl; exact rfl; infer_instance; infer_instance; (exact HR.cutR (l := l) (n := n) inferInstance hn hcap (i + 1) 5 rfl); exact rfl; (exact hl2); (omega); (decide); (decide); intro A2 c2 wa2 _ ho2 g2 hcap2) | ((with_reducible apply wpl_loadrow); exact rfl; infer_instance; infer_instance; (first | with_reducible assumption | (with_reducible exact enc_sz _ rfl) | kernel_rfl)) | ((with_reducible apply wpl_loadcellN); exact rfl; infer_instance; exact rfl) | ((with_reducible apply (wpl_loadE (α := OM) (t := 90))); infer_instance; exact rfl; infer_instance; exact rfl; (decide); (first | with_reducible assumption | omega | (focus (simp; done)) | (focus (simp; omega; done)) | decide)) | ((with_reducible apply (wpl_loadF (α := OM))); infer_instance; exact rfl; infer_instance; exact rfl; (first | with_reducible assumption | omega | (focus (simp; done)) | (focus (simp; omega; done)) | decide); exact rfl) | ((with_reducible apply (wpl_loadint (t := 3))); exact rfl; infer_instance; infer_instance; (first | with_reducible assumption | omega)) | ((with_reducible apply (wpl_loadbyte (t := 5))); exact rfl; infer_instance; infer_instance; (first | with_reducible assumption | omega)))
          refine wpList_nil ?_
          unfold onlyN
          refine hK_.out _ _ inferInstance (fun _ => ?_)
          clear hK_ K_
          try simp only [Act.put, sA]; try simp only [sB, sC]
          refine' takeH (i := 15) (v := _) rfl (by kernel_rfl) (by kernel_rfl) (by kernel_rfl) (fun _ _ _ h => h) (yields_of (by rfl) (fun w' _ => ?_)) inferInstance ?_
          rotate_left
          · (first | ((with_reducible apply ev_sl_lh); exact rfl; exact rfl; exact rfl; infer_instance; (first | with_reducible assumption | omega); (first | with_reducible assumption | omega)) | ((with_reducible apply ev_sl_h); exact rfl; exact rfl; infer_instance; (first | with_reducible assumption | omega)) | ((with_reducible apply ev_sl_l); exact rfl; exact rfl; infer_instance; (first | with_reducible assumption | omega)) | (go_simp; try with_reducible rfl))
          try simp only [Act.put, sA]; try simp only [sB, sC]
          refine goH (i := 8) (by kernel_rfl) rfl (fun K_ hK_ => ?_)
          rw [if_pos (by kernel_rfl)]
          refine wpr_of_list ?_
          (first | ((with_reducible apply (stop_dst (dst := some 13))); (try simp only [Act.put, sA, sB, sC]); ((with_reducible apply (wpl_bslice (dst := some 13))); (exact run_emptyO _); intro zn wb _ _ _)) | ((with_reducible apply (stop_dst (dst := some 20))); (with_reducible apply (wpl_appendR (α := OM))); exact rfl; exact rfl; infer_instance; (exact HO.ofEmptyO _ zn _); (exact HR.takeR (l := l) inferInstance i); exact rfl; (exact hl1); (omega); (decide); (decide); intro A1 c1 wa1 _ ho1 g1 hcap1) | ((with_reducible apply (stop_dst (dst := some 28))); (with_reducible apply (wpl_appendR (α := OM))); exact rfl; exact rfl; infer_instance; infer_instance; (exact HR.cutR (l := l) (n := n) inferInstance hn hcap (i + 1) 5 rfl); exact rfl; (exact hl2); (omega); (decide); (decide); intro A2 c2 wa2 _ ho2 g2 hcap2) | ((with_reducible apply wpl_appendB); exact rfl; exact rfl; infer_instance; (first | exact inferInstance | exact ⟨Own.nil _ _ _⟩); infer_instance; (first | with_reducible assumption | (with_reducible exact H32.len _) | (focus (simp; done)) | omega); (first | with_reducible assumption | omega); intro A' c' wa _ _ _ hcap))
          refine wpList_nil ?_
          unfold onlyN
          refine hK_.out _ _ inferInstance (fun _ => ?_)
          clear hK_ K_
          try simp only [Act.put, sA]; try simp only [sB, sC]
          refine goH (i := 16) (by kernel_rfl) rfl (fun K_ hK_ => ?_)
          rw [if_pos (by kernel_rfl)]
          refine wpr_of_list ?_
          (first | ((with_reducible apply (stop_dst (dst := some 13))); (try simp only [Act.put, sA, sB, sC]); ((with_reducible apply (wpl_bslice (dst := some 13))); (exact run_emptyO _); intro zn wb _ _ _)) | ((with_reducible apply (stop_dst (dst := some 20))); (with_reducible apply (wpl_appendR (α := OM))); exact rfl; exact rfl; infer_instance; (exact HO.ofEmptyO _ zn _); (exact HR.takeR (l := l) inferInstance i); exact rfl; (exact hl1); (omega); (decide); (decide); intro A1 c1 wa1 _ ho1 g1 hcap1) | ((with_reducible apply (stop_dst (dst := some 28))); (with_reducible apply (wpl_appendR (α := OM))); exact rfl; exact rfl; infer_instance; infer_instance; (exact HR.cutR (l := l) (n := n) inferInstance hn hcap (i + 1) 5 rfl); exact rfl; (exact hl2); (omega); (decide); (decide); intro A2 c2 wa2 _ ho2 g2 hcap2) | ((with_reducible apply wpl_appendB); exact rfl; exact rfl; infer_instance; (first | exact inferInstance | exact ⟨Own.nil _ _ _⟩); infer_instance; (first | with_reducible assumption | (with_reducible exact H32.len _) | (focus (simp; done)) | omega); (first | with_reducible assumption | omega); intro A' c' wa _ _ _ hcap))
          refine wpList_nil ?_
          unfold onlyN
          refine hK_.out _ _ inferInstance (fun _ => ?_)
          clear hK_ K_
          try simp only [Act.put, sA]; try simp only [sB, sC]
          refine' takeH (i := 17) (v := _) rfl (by kernel_rfl) (by kernel_rfl) (by kernel_rfl) (fun _ _ _ h => h) (yields_of (by rfl) (fun w' _ => ?_)) inferInstance ?_
          rotate_left
          · (go_simp; try with_reducible rfl)
          try simp only [Act.put, sA]; try simp only [sB, sC]
          refine' takeH (i := 18) (v := _) rfl (by kernel_rfl) (by kernel_rfl) (by kernel_rfl) (fun _ _ _ h => h) (yields_of (by rfl) (fun w' _ => ?_)) inferInstance ?_
          rotate_left
          · (first | ((with_reducible apply (ev_fieldE (t := 90))); (exact Try.underlying90); exact rfl; (kernel_rfl); exact rfl; infer_instance; (exact cells_pos (by decide) (by omega))) | (go_simp; try with_reducible rfl))
          try simp only [Act.put, sA]; try simp only [sB, sC]
          refine goH (i := 19) (by kernel_rfl) rfl (fun K_ hK_ => ?_)
          rw [if_pos (by kernel_rfl)]
          refine wpr_of_list ?_
          (first | ((with_reducible apply (stop_dst (dst := some 13))); (try simp only [Act.put, sA, sB, sC]); ((with_reducible apply (wpl_bslice (dst := some 13))); (exact run_emptyO _); intro zn wb _ _ _)) | ((with_reducible apply (stop_dst (dst := some 20))); (with_reducible apply (wpl_appendR (α := OM))); exact rfl; exact rfl; infer_instance; (exact HO.ofEmptyO _ zn _); (exact HR.takeR (l := l) inferInstance i); exact rfl; (exact hl1); (omega); (decide); (decide); intro A1 c1 wa1 _ ho1 g1 hcap1) | ((with_reducible apply (stop_dst (dst := some 28))); (with_reducible apply (wpl_appendR (α := OM))); exact rfl; exact rfl; infer_instance; infer_instance; (exact HR.cutR (l := l) (n := n) inferInstance hn hcap (i + 1) 5 rfl); exact rfl; (exact hl2); (omega); (decide); (decide); intro A2 c2 wa2 _ ho2 g2 hcap2) | ((with_reducible apply wpl_storerow); exact rfl; exact rfl; infer_instance; infer_instance; (first | with_reducible assumption | (with_reducible exact enc_sz _ rfl) | kernel_rfl); (first | with_reducible assumption | (with_reducible exact enc_sz _ rfl) | kernel_rfl); (first | (with_reducible exact u8s_one _) | with_reducible assumption | (with_reducible exact enc_one _) | kernel_rfl); intro ws _ _) | ((with_reducible apply wpl_storecell); exact rfl; exact rfl; infer_instance; exact rfl; (first | with_reducible assumption | omega | (focus (simp; done)) | (focus (simp; omega; done)) | decide); intro ws _ _) | ((with_reducible apply (wpl_storeint (t := 3))); exact rfl; exact rfl; infer_instance; (first | with_reducible assumption | omega); intro ws _ _) | ((with_reducible apply (wpl_storebyte (t := 5))); exact rfl; exact rfl; infer_instance; (first | with_reducible assumption | omega | (focus (simp; done)) | (focus (simp; omega; done)) | decide); (constructor <;> omega); intro ws _ _))
          refine wpList_nil ?_
          unfold onlyN
          refine hK_.out _ _ inferInstance (fun _ => ?_)
          clear hK_ K_
          try simp only [Act.put]
          refine wpAnyH_done (by kernel_rfl) ?_ _
      case' br2_12 =>
        rw [if_pos (by kernel_rfl)]
        refine wpr_of_list ?_
        (first | ((with_reducible apply (stop_dst (dst := some 13))); (try simp only [Act.put, sA, sB, sC]); ((with_reducible apply (wpl_bslice (dst := some 13))); (exact run_emptyO _); intro zn wb _ _ _)) | ((with_reducible apply (stop_dst (dst := some 20))); (with_reducible apply (wpl_appendR (α := OM))); exact rfl; exact rfl; infer_instance; (exact HO.ofEmptyO _ zn _); (exact HR.takeR (l := l) inferInstance i); exact rfl; (exact hl1); (omega); (decide); (decide); intro A1 c1 wa1 _ ho1 g1 hcap1) | ((with_reducible apply (stop_dst (dst := some 28))); (with_reducible apply (wpl_appendR (α := OM))); exact rfl; exact rfl; infer_instance; infer_instance; (exact HR.cutR (l := l) (n := n) inferInstance hn hcap (i + 1) 5 rfl); exact rfl; (exact hl2); (omega); (decide); (decide); intro A2 c2 wa2 _ ho2 g2 hcap2) | ((with_reducible apply wpl_loadrow); exact rfl; infer_instance; infer_instance; (first | with_reducible assumption | (with_reducible exact enc_sz _ rfl) | kernel_rfl)) | ((with_reducible apply wpl_loadcellN); exact rfl; infer_instance; exact rfl) | ((with_reducible apply (wpl_loadE (α := OM) (t := 90))); infer_instance; exact rfl; infer_instance; exact rfl; (decide); (first | with_reducible assumption | omega | (focus (simp; done)) | (focus (simp; omega; done)) | decide)) | ((with_reducible apply (wpl_loadF (α := OM))); infer_instance; exact rfl; infer_instance; exact rfl; (first | with_reducible assumption | omega | (focus (simp; done)) | (focus (simp; omega; done)) | decide); exact rfl) | ((with_reducible apply (wpl_loadint (t := 3))); exact rfl; infer_instance; infer_instance; (first | with_reducible assumption | omega)) | ((with_reducible apply (wpl_loadbyte (t := 5))); exact rfl; infer_instance; infer_instance; (first | with_reducible assumption | omega)))
        refine wpList_nil ?_
        unfold onlyN
        refine hK_.out _ _ inferInstance (fun _ => ?_)
        clear hK_ K_
        try simp only [Act.put, sA]; try simp only [sB, sC]
        refine' takeH (i := 15) (v := _) rfl (by kernel_rfl) (by kernel_rfl) (by kernel_rfl) (fun _ _ _ h => h) (yields_of (by rfl) (fun w' _ => ?_)) inferInstance ?_
        rotate_left
        · (first | ((with_reducible apply ev_sl_lh); exact rfl; exact rfl; exact rfl; infer_instance; (first | with_reducible assumption | omega); (first | with_reducible assumption | omega)) | ((with_reducible apply ev_sl_h); exact rfl; exact rfl; infer_instance; (first | with_reducible assumption | omega)) | ((with_reducible apply ev_sl_l); exact rfl; exact rfl; infer_instance; (first | with_reducible assumption | omega)) | (go_simp; try with_reducible rfl))
        try simp only [Act.put, sA]; try simp only [sB, sC]
        refine goH (i := 5) (by kernel_rfl) rfl (fun K_ hK_ => ?_)
        rw [if_pos (by kernel_rfl)]
        refine wpr_of_list ?_
        (first | ((with_reducible apply (stop_dst (dst := some 13))); (try simp only [Act.put, sA, sB, sC]); ((with_reducible apply (wpl_bslice (dst := some 13))); (exact run_emptyO _); intro zn wb _ _ _)) | ((with_reducible apply (stop_dst (dst := some 20))); (with_reducible apply (wpl_appendR (α := OM))); exact rfl; exact rfl; infer_instance; (exact HO.ofEmptyO _ zn _); (exact HR.takeR (l := l) inferInstance i); exact rfl; (exact hl1); (omega); (decide); (decide); intro A1 c1 wa1 _ ho1 g1 hcap1) | ((with_reducible apply (stop_dst (dst := some 28))); (with_reducible apply (wpl_appendR (α := OM))); exact rfl; exact rfl; infer_instance; infer_instance; (exact HR.cutR (l := l) (n := n) inferInstance hn hcap (i + 1) 5 rfl); exact rfl; (exact hl2); (omega); (decide); (decide); intro A2 c2 wa2 _ ho2 g2 hcap2) | ((with_reducible apply wpl_loadrow); exact rfl; infer_instance; infer_instance; (first | with_reducible assumption | (with_reducible exact enc_sz _ rfl) | kernel_rfl)) | ((with_reducible apply wpl_loadcellN); exact rfl; infer_instance; exact rfl) | ((with_reducible apply (wpl_loadE (α := OM) (t := 90))); infer_instance; exact rfl; infer_instance; exact rfl; (decide); (first | with_reducible assumption | omega | (focus (simp; done)) | (focus (simp; omega; done)) | decide)) | ((with_reducible apply (wpl_loadF (α := OM))); infer_instance; exact rfl; infer_instance; exact rfl; (first | with_reducible assumption | omega | (focus (simp; done)) | (focus (simp; omega; done)) | decide); exact rfl) | ((with_reducible apply (wpl_loadint (t := 3))); exact rfl; infer_instance; infer_instance; (first | with_reducible assumption | omega)) | ((with_reducible apply (wpl_loadbyte (t := 5))); exact rfl; infer_instance; infer_instance; (first | with_reducible assumption | omega)))
        refine wpList_nil ?_
        unfold onlyN
        refine hK_.out _ _ inferInstance (fun _ => ?_)
        clear hK_ K_
        try simp only [Act.put, sA]; try simp only [sB, sC]
        refine' takeH (i := 7) (v := _) rfl (by kernel_rfl) (by kernel_rfl) (by kernel_rfl) (fun _ _ _ h => h) (yields_of (by rfl) (fun w' _ => ?_)) inferInstance ?_
        rotate_left
        · (first | ((with_reducible apply ev_sl_lh); exact rfl; exact rfl; exact rfl; infer_instance; (first | with_reducible assumption | omega); (first | with_reducible assumption | omega)) | ((with_reducible apply ev_sl_h); exact rfl; exact rfl; infer_instance; (first | with_reducible assumption | omega)) | ((with_reducible apply ev_sl_l); exact rfl; exact rfl; infer_instance; (first | with_reducible assumption | omega)) | (go_simp; try with_reducible rfl))
        try simp only [Act.put, sA]; try simp only [sB, sC]
        refine goH (i := 8) (by kernel_rfl) rfl (fun K_ hK_ => ?_)
        rw [if_pos (by kernel_rfl)]
        refine wpr_of_list ?_
        (first | ((with_reducible apply (stop_dst (dst := some 13))); (try simp only [Act.put, sA, sB, sC]); ((with_reducible apply (wpl_bslice (dst := some 13))); (exact run_emptyO _); intro zn wb _ _ _)) | ((with_reducible apply (stop_dst (dst := some 20))); (with_reducible apply (wpl_appendR (α := OM))); exact rfl; exact rfl; infer_instance; (exact HO.ofEmptyO _ zn _); (exact HR.takeR (l := l) inferInstance i); exact rfl; (exact hl1); (omega); (decide); (decide); intro A1 c1 wa1 _ ho1 g1 hcap1) | ((with_reducible apply (stop_dst (dst := some 28))); (with_reducible apply (wpl_appendR (α := OM))); exact rfl; exact rfl; infer_instance; infer_instance; (exact HR.cutR (l := l) (n := n) inferInstance hn hcap (i + 1) 5 rfl); exact rfl; (exact hl2); (omega); (decide); (decide); intro A2 c2 wa2 _ ho2 g2 hcap2) | ((with_reducible apply wpl_appendB); exact rfl; exact rfl; infer_instance; (first | exact inferInstance | exact ⟨Own.nil _ _ _⟩); infer_instance; (first | with_reducible assumption | (with_reducible exact H32.len _) | (focus (simp; done)) | omega); (first | with_reducible assumption | omega); intro A' c' wa _ _ _ hcap))
        refine wpList_nil ?_
        unfold onlyN
        refine hK_.out _ _ inferInstance (fun _ => ?_)
        clear hK_ K_
        try simp only [Act.put, sA]; try simp only [sB, sC]
        refine goH (i := 16) (by kernel_rfl) rfl (fun K_ hK_ => ?_)
        rw [if_pos (by kernel_rfl)]
        refine wpr_of_list ?_
        (first | ((with_reducible apply (stop_dst (dst := some 13))); (try simp only [Act.put, sA, sB, sC]); ((with_reducible apply (wpl_bslice (dst := some 13))); (exact run_emptyO _); intro zn wb _ _ _)) | ((with_reducible apply (stop_dst (dst := some 20))); (with_reducible apply (wpl_appendR (α := OM))); exact rfl; exact rfl; infer_instance; (exact HO.ofEmptyO _ zn _); (exact HR.takeR (l := l) inferInstance i); exact rfl; (exact hl1); (omega); (decide); (decide); intro A1 c1 wa1 _ ho1 g1 hcap1) | ((with_reducible apply (stop_dst (dst := some 28))); (with_reducible apply (wpl_appendR (α := OM))); exact rfl; exact rfl; infer_instance; infer_instance; (exact HR.cutR (l := l) (n := n) inferInstance hn hcap (i + 1) 5 rfl); exact rfl; (exact hl2); (omega); (decide); (decide); intro A2 c2 wa2 _ ho2 g2 hcap2) | ((with_reducible apply wpl_appendB); exact rfl; exact rfl; infer_instance; (first | exact inferInstance | exact ⟨Own.nil _ _ _⟩); infer_instance; (first | with_reducible assumption | (with_reducible exact H32.len _) | (focus (simp; done)) | omega); (first | with_reducible assumption | omega); intro A' c' wa _ _ _ hcap))
        refine wpList_nil ?_
        unfold onlyN
        refine hK_.out _ _ inferInstance (fun _ => ?_)
        clear hK_ K_
        try simp only [Act.put, sA]; try simp only [sB, sC]
        refine' takeH (i := 17) (v := _) rfl (by kernel_rfl) (by kernel_rfl) (by kernel_rfl) (fun _ _ _ h => h) (yields_of (by rfl) (fun w' _ => ?_)) inferInstance ?_
        rotate_left
        · (go_simp; try with_reducible rfl)
        try simp only [Act.put, sA]; try simp only [sB, sC]
        refine' takeH (i := 18) (v := _) rfl (by kernel_rfl) (by kernel_rfl) (by kernel_rfl) (fun _ _ _ h => h) (yields_of (by rfl) (fun w' _ => ?_)) inferInstance ?_
        rotate_left
        · (first | ((with_reducible apply (ev_fieldE (t := 90))); (exact Try.underlying90); exact rfl; (kernel_rfl); exact rfl; infer_instance; (exact cells_pos (by decide) (by omega))) | (go_simp; try with_reducible rfl))
        try simp only [Act.put, sA]; try simp only [sB, sC]
        refine goH (i := 19) (by kernel_rfl) rfl (fun K_ hK_ => ?_)
        rw [if_pos (by kernel_rfl)]
        refine wpr_of_list ?_
        (first | ((with_reducible apply (stop_dst (dst := some 13))); (try simp only [Act.put, sA, sB, sC]); ((with_reducible apply (wpl_bslice (dst := some 13))); (exact run_emptyO _); intro zn wb _ _ _)) | ((with_reducible apply (stop_dst (dst := some 20))); (with_reducible apply (wpl_appendR (α := OM))); exact rfl; exact rfl; infer_instance; (exact HO.ofEmptyO _ zn _); (exact HR.takeR (l := l) inferInstance i); exact rfl; (exact hl1); (omega); (decide); (decide); intro A1 c1 wa1 _ ho1 g1 hcap1) | ((with_reducible apply (stop_dst (dst := some 28))); (with_reducible apply (wpl_appendR (α := OM))); exact rfl; exact rfl; infer_instance; infer_instance; (exact HR.cutR (l := l) (n := n) inferInstance hn hcap (i + 1) 5 rfl); exact rfl; (exact hl2); (omega); (decide); (decide); intro A2 c2 wa2 _ ho2 g2 hcap2) | ((with_reducible apply wpl_storerow); exact rfl; exact rfl; infer_instance; infer_instance; (first | with_reducible assumption | (with_reducible exact enc_sz _ rfl) | kernel_rfl); (first | with_reducible assumption | (with_reducible exact enc_sz _ rfl) | kernel_rfl); (first | (with_reducible exact u8s_one _) | with_reducible assumption | (with_reducible exact enc_one _) | kernel_rfl); intro ws _ _) | ((with_reducible apply wpl_storecell); exact rfl; exact rfl; infer_instance; exact rfl; (first | with_reducible assumption | omega | (focus (simp; done)) | (focus (simp; omega; done)) | decide); intro ws _ _) | ((with_reducible apply (wpl_storeint (t := 3))); exact rfl; exact rfl; infer_instance; (first | with_reducible assumption | omega); intro ws _ _) | ((with_reducible apply (wpl_storebyte (t := 5))); exact rfl; exact rfl; infer_instance; (first | with_reducible assumption | omega | (focus (simp; done)) | (focus (simp; omega; done)) | decide); (constructor <;> omega); intro ws _ _))
        refine wpList_nil ?_
        unfold onlyN
        refine hK_.out _ _ inferInstance (fun _ => ?_)
        clear hK_ K_
        try simp only [Act.put]
        refine wpAnyH_done (by kernel_rfl) ?_ _
    case' br1_5 =>
      rw [if_pos (by kernel_rfl)]
      refine wpr_of_list ?_
      (first | ((with_reducible apply (stop_dst (dst := some 13))); (try simp only [Act.put, sA, sB, sC]); ((with_reducible apply (wpl_bslice (dst := some 13))); (exact run_emptyO _); intro zn wb _ _ _)) | ((with_reducible apply (stop_dst (dst := some 20))); (with_reducible apply (wpl_appendR (α := OM))); exact rfl; exact rfl; infer_instance; (exact HO.ofEmptyO _ zn _); (exact HR.takeR (l := l) inferInstance i); exact rfl; (exact hl1); (omega); (decide); (decide); intro A1 c1 wa1 _ ho1 g1 hcap1) | ((with_reducible apply (stop_dst (dst := some 28))); (with_reducible apply (wpl_appendR (α := OM))); exact rfl; exact rfl; infer_instance; infer_instance; (exact HR.cutR (l := l) (n := n) inferInstance hn hcap (i + 1) 5 rfl); exact rfl; (exact hl2); (omega); (decide); (decide); intro A2 c2 wa2 _ ho2 g2 hcap2) | ((with_reducible apply wpl_loadrow); exact rfl; infer_instance; infer_instance; (first | with_reducible assumption | (with_reducible exact enc_sz _ rfl) | kernel_rfl)) | ((with_reducible apply wpl_loadcellN); exact rfl; infer_instance; exact rfl) | ((with_reducible apply (wpl_loadE (α := OM) (t := 90))); infer_instance; exact rfl; infer_instance; exact rfl; (decide); (first | with_reducible assumption | omega | (focus (simp; done)) | (focus (simp; omega; done)) | decide)) | ((with_reducible apply (wpl_loadF (α := OM))); infer_instance; exact rfl; infer_instance; exact rfl; (first | with_reducible assumption | omega | (focus (simp; done)) | (focus (simp; omega; done)) | decide); exact rfl) | ((with_reducible apply (wpl_loadint (t := 3))); exact rfl; infer_instance; infer_instance; (first | with_reducible assumption | omega)) | ((with_reducible apply (wpl_loadbyte (t := 5))); exact rfl; infer_instance; infer_instance; (first | with_reducible assumption | omega)))
      refine wpList_nil ?_
      unfold onlyN
      refine hK_.out _ _ inferInstance (fun _ => ?_)
      clear hK_ K_
      try simp only [Act.put, sA]; try simp only [sB, sC]
      refine' takeH (i := 7) (v := _) rfl (by kernel_rfl) (by kernel_rfl) (by kernel_rfl) (fun _ _ _ h => h) (yields_of (by rfl) (fun w' _ => ?_)) inferInstance ?_
      rotate_left
      · (first | ((with_reducible apply ev_sl_lh); exact rfl; exact rfl; exact rfl; infer_instance; (first | with_reducible assumption | omega); (first | with_reducible assumption | omega)) | ((with_reducible apply ev_sl_h); exact rfl; exact rfl; infer_instance; (first | with_reducible assumption | omega)) | ((with_reducible apply ev_sl_l); exact rfl; exact rfl; infer_instance; (first | with_reducible assumption | omega)) | (go_simp; try with_reducible rfl))
      try simp only [Act.put, sA]; try simp only [sB, sC]
      refine wpAnyH_ready (rs := [1, 12]) (by kernel_rfl) (by simp) (AllReadyH.cons rfl (fun K_ hK_ => ?br4_1) (AllReadyH.cons rfl (fun K_ hK_ => ?br4_12) AllReadyH.nil))
      case' br4_1 =>
        rw [if_pos (by kernel_rfl)]
        refine wpr_of_list ?_
        (first | ((with_reducible apply (stop_dst (dst := some 13))); (try simp only [Act.put, sA, sB, sC]); ((with_reducible apply (wpl_bslice (dst := some 13))); (exact run_emptyO _); intro zn wb _ _ _)) | ((with_reducible apply (stop_dst (dst := some 20))); (with_reducible apply (wpl_appendR (α := OM))); exact rfl; exact rfl; infer_instance; (exact HO.ofEmptyO _ zn _); (exact HR.takeR (l := l) inferInstance i); exact rfl; (exact hl1); (omega); (decide); (decide); intro A1 c1 wa1 _ ho1 g1 hcap1) | ((with_reducible apply (stop_dst (dst := some 28))); (with_reducible apply (wpl_appendR (α := OM))); exact rfl; exact rfl; infer_instance; infer_instance; (exact HR.cutR (l := l) (n := n) inferInstance hn hcap (i + 1) 5 rfl); exact rfl; (exact hl2); (omega); (decide); (decide); intro A2 c2 wa2 _ ho2 g2 hcap2))
        refine wpList_nil ?_
        unfold onlyN
        refine hK_.out _ _ inferInstance (fun _ => ?_)
        clear hK_ K_
        try simp only [Act.put, sA]; try simp only [sB, sC]
        refine wpAnyH_ready (rs := [8, 12]) (by kernel_rfl) (by simp) (AllReadyH.cons rfl (fun K_ hK_ => ?br5_8) (AllReadyH.cons rfl (fun K_ hK_ => ?br5_12) AllReadyH.nil))
        case' br5_8 =>
          rw [if_pos (by kernel_rfl)]
          refine wpr_of_list ?_
          (first | ((with_reducible apply (stop_dst (dst := some 13))); (try simp only [Act.put, sA, sB, sC]); ((with_reducible apply (wpl_bslice (dst := some 13))); (exact run_emptyO _); intro zn wb _ _ _)) | ((with_reducible apply (stop_dst (dst := some 20))); (with_reducible apply (wpl_appendR (α := OM))); exact rfl; exact rfl; infer_instance; (exact HO.ofEmptyO _ zn _); (exact HR.takeR (l := l) inferInstance i); exact rfl; (exact hl1); (omega); (decide); (decide); intro A1 c1 wa1 _ ho1 g1 hcap1) | ((with_reducible apply (stop_dst (dst := some 28))); (with_reducible apply (wpl_appendR (α := OM))); exact rfl; exact rfl; infer_instance; infer_instance; (exact HR.cutR (l := l) (n := n) inferInstance hn hcap (i + 1) 5 rfl); exact rfl; (exact hl2); (omega); (decide); (decide); intro A2 c2 wa2 _ ho2 g2 hcap2) | ((with_reducible apply wpl_appendB); exact rfl; exact rfl; infer_instance; (first | exact inferInstance | exact ⟨Own.nil _ _ _⟩); infer_instance; (first | with_reducible assumption | (with_reducible exact H32.len _) | (focus (simp; done)) | omega); (first | with_reducible assumption | omega); intro A' c' wa _ _ _ hcap))
          refine wpList_nil ?_
          unfold onlyN
          refine hK_.out _ _ inferInstance (fun _ => ?_)
          clear hK_ K_
          try simp only [Act.put, sA]; try simp only [sB, sC]
          refine goH (i := 12) (by kernel_rfl) rfl (fun K_ hK_ => ?_)
          rw [if_pos (by kernel_rfl)]
          refine wpr_of_list ?_
          (first | ((with_reducible apply (stop_dst (dst := some 13))); (try simp only [Act.put, sA, sB, sC]); ((with_reducible apply (wpl_bslice (dst := some 13))); (exact run_emptyO _); intro zn wb _ _ _)) | ((with_reducible apply (stop_dst (dst := some 20))); (with_reducible apply (wpl_appendR (α := OM))); exact rfl; exact rfl; infer_instance; (exact HO.ofEmptyO _ zn _); (exact HR.takeR (l := l) inferInstance i); exact rfl; (exact hl1); (omega); (decide); (decide); intro A1 c1 wa1 _ ho1 g1 hcap1) | ((with_reducible apply (stop_dst (dst := some 28))); (with_reducible apply (wpl_appendR (α := OM))); exact rfl; exact rfl; infer_instance; infer_instance; (exact HR.cutR (l := l) (n := n) inferInstance hn hcap (i + 1) 5 rfl); exact rfl; (exact hl2); (omega); (decide); (decide); intro A2 c2 wa2 _ ho2 g2 hcap2) | ((with_reducible apply wpl_loadrow); exact rfl; infer_instance; infer_instance; (first | with_reducible assumption | (with_reducible exact enc_sz _ rfl) | kernel_rfl)) | ((with_reducible apply wpl_loadcellN); exact rfl; infer_instance; exact rfl) | ((with_reducible apply (wpl_loadE (α := OM) (t := 90))); infer_instance; exact rfl; infer_instance; exact rfl; (decide); (first | with_reducible assumption | omega | (focus (simp; done)) | (focus (simp; omega; done)) | decide)) | ((with_reducible apply (wpl_loadF (α := OM))); infer_instance; exact rfl; infer_instance; exact rfl; (first | with_reducible assumption | omega | (focus (simp; done)) | (focus (simp; omega; done)) | decide); exact rfl) | ((with_reducible apply (wpl_loadint (t := 3))); exact rfl; infer_instance; infer_instance; (first | with_reducible assumption | omega)) | ((with_reducible apply (wpl_loadbyte (t := 5))); exact rfl; infer_instance; infer_instance; (first | with_reducible assumption | omega)))
          refine wpList_nil ?_
          unfold onlyN
          refine hK_.out _ _ inferInstance (fun _ => ?_)
          clear hK_ K_
          try simp only [Act.put, sA]; try simp only [sB, sC]
          refine' takeH (i := 15) (v := _) rfl (by kernel_rfl) (by kernel_rfl) (by kernel_rfl) (fun _ _ _ h => h) (yields_of (by rfl) (fun w' _ => ?_)) inferInstance ?_
          rotate_left
          · (first | ((with_reducible apply ev_sl_lh); exact rfl; exact rfl; exact rfl; infer_instance; (first | with_reducible assumption | omega); (first | with_reducible assumption | omega)) | ((with_reducible apply ev_sl_h); exact rfl; exact rfl; infer_instance; (first | with_reducible assumption | omega)) | ((with_reducible apply ev_sl_l); exact rfl; exact rfl; infer_instance; (first | with_reducible assumption | omega)) | (go_simp; try with_reducible rfl))
          try simp only [Act.put, sA]; try simp only [sB, sC]
          refine goH (i := 16) (by kernel_rfl) rfl (fun K_ hK_ => ?_)
          rw [if_pos (by kernel_rfl)]
          refine wpr_of_list ?_
          (first | ((with_reducible apply (stop_dst (dst := some 13))); (try simp only [Act.put, sA, sB, sC]); ((with_reducible apply (wpl_bslice (dst := some 13))); (exact run_emptyO _); intro zn wb _ _ _)) | ((with_reducible apply (stop_dst (dst := some 20))); (with_reducible apply (wpl_appendR (α := OM))); exact rfl; exact rfl; infer_instance; (exact HO.ofEmptyO _ zn _); (exact HR.takeR (l := l) inferInstance i); exact rfl; (exact hl1); (omega); (decide); (decide); intro A1 c1 wa1 _ ho1 g1 hcap1) | ((with_reducible apply (stop_dst (dst := some 28))); (with_reducible apply (wpl_appendR (α := OM))); exact rfl; exact rfl; infer_instance; infer_instance; (exact HR.cutR (l := l) (n := n) inferInstance hn hcap (i + 1) 5 rfl); exact rfl; (exact hl2); (omega); (decide); (decide); intro A2 c2 wa2 _ ho2 g2 hcap2) | ((with_reducible apply wpl_appendB); exact rfl; exact rfl; infer_instance; (first | exact inferInstance | exact ⟨Own.nil _ _ _⟩); infer_instance; (first | with_reducible assumption | (with_reducible exact H32.len _) | (focus (simp; done)) | omega); (first | with_reducible assumption | omega); intro A' c' wa _ _ _ hcap))
          refine wpList_nil ?_
          unfold onlyN
          refine hK_.out _ _ inferInstance (fun _ => ?_)
          clear hK_ K_
          try simp only [Act.put, sA]; try simp only [sB, sC]
          refine' takeH (i := 17) (v := _) rfl (by kernel_rfl) (by kernel_rfl) (by kernel_rfl) (fun _ _ _ h => h) (yields_of (by rfl) (fun w' _ => ?_)) inferInstance ?_
          rotate_left
          · (go_simp; try with_reducible rfl)
          try simp only [Act.put, sA]; try simp only [sB, sC]
          refine' takeH (i := 18) (v := _) rfl (by kernel_rfl) (by kernel_rfl) (by kernel_rfl) (fun _ _ _ h => h) (yields_of (by rfl) (fun w' _ => ?_)) inferInstance ?_
          rotate_left
          · (first | ((with_reducible apply (ev_fieldE (t := 90))); (exact Try.underlying90); exact rfl; (kernel_rfl); exact rfl; infer_instance; (exact cells_pos (by decide) (by omega))) | (go_simp; try with_reducible rfl))
          try simp only [Act.put, sA]; try simp only [sB, sC]
          refine goH (i := 19) (by kernel_rfl) rfl (fun K_ hK_ => ?_)
          rw [if_pos (by kernel_rfl)]
          refine wpr_of_list ?_
          (first | ((with_reducible apply (stop_dst (dst := some 13))); (try simp only [Act.put, sA, sB, sC]); ((with_reducible apply (wpl_bslice (dst := some 13))); (exact run_emptyO _); intro zn wb _ _ _)) | ((with_reducible apply (stop_dst (dst := some 20))); (with_reducible apply (wpl_appendR (α := OM))); exact rfl; exact rfl; infer_instance; (exact HO.ofEmptyO _ zn _); (exact HR.takeR (l := l) inferInstance i); exact rfl; (exact hl1); (omega); (decide); (decide); intro A1 c1 wa1 _ ho1 g1 hcap1) | ((with_reducible apply (stop_dst (dst := some 28))); (with_reducible apply (wpl_appendR (α := OM))); exact rfl; exact rfl; infer_instance; infer_instance; (exact HR.cutR (l := l) (n := n) inferInstance hn hcap (i + 1) 5 rfl); exact rfl; (exact hl2); (omega); (decide); (decide); intro A2 c2 wa2 _ ho2 g2 hcap2) | ((with_reducible apply wpl_storerow); exact rfl; exact rfl; infer_instance; infer_instance; (first | with_reducible assumption | (with_reducible exact enc_sz _ rfl) | kernel_rfl); (first | with_reducible assumption | (with_reducible exact enc_sz _ rfl) | kernel_rfl); (first | (with_reducible exact u8s_one _) | with_reducible assumption | (with_reducible exact enc_one _) | kernel_rfl); intro ws _ _) | ((with_reducible apply wpl_storecell); exact rfl; exact rfl; infer_instance; exact rfl; (first | with_reducible assumption | omega | (focus (simp; done)) | (focus (simp; omega; done)) | decide); intro ws _ _) | ((with_reducible apply (wpl_storeint (t := 3))); exact rfl; exact rfl; infer_instance; (first | with_reducible assumption | omega); intro ws _ _) | ((with_reducible apply (wpl_storebyte (t := 5))); exact rfl; exact rfl; infer_instance; (first | with_reducible assumption | omega | (focus (simp; done)) | (focus (simp; omega; done)) | decide); (constructor <;> omega); intro ws _ _))
          refine wpList_nil ?_
          unfold onlyN
          refine hK_.out _ _ inferInstance (fun _ => ?_)
          clear hK_ K_
          try simp only [Act.put]
          refine wpAnyH_done (by kernel_rfl) ?_ _
        case' br5_12 =>
          rw [if_pos (by kernel_rfl)]
          refine wpr_of_list ?_
          (first | ((with_reducible apply (stop_dst (dst := some 13))); (try simp only [Act.put, sA, sB, sC]); ((with_reducible apply (wpl_bslice (dst := some 13))); (exact run_emptyO _); intro zn wb _ _ _)) | ((with_reducible apply (stop_dst (dst := some 20))); (with_reducible apply (wpl_appendR (α := OM))); exact rfl; exact rfl; infer_instance; (exact HO.ofEmptyO _ zn _); (exact HR.takeR (l := l) inferInstance i); exact rfl; (exact hl1); (omega); (decide); (decide); intro A1 c1 wa1 _ ho1 g1 hcap1) | ((with_reducible apply (stop_dst (dst := some 28))); (with_reducible apply (wpl_appendR (α := OM))); exact rfl; exact rfl; infer_instance; infer_instance; (exact HR.cutR (l := l) (n := n) inferInstance hn hcap (i + 1) 5 rfl); exact rfl; (exact hl2); (omega); (decide); (decide); intro A2 c2 wa2 _ ho2 g2 hcap2) | ((with_reducible apply wpl_loadrow); exact rfl; infer_instance; infer_instance; (first | with_reducible assumption | (with_reducible exact enc_sz _ rfl) | kernel_rfl)) | ((with_reducible apply wpl_loadcellN); exact rfl; infer_instance; exact rfl) | ((with_reducible apply (wpl_loadE (α := OM) (t := 90))); infer_instance; exact rfl; infer_instance; exact rfl; (decide); (first | with_reducible assumption | omega | (focus (simp; done)) | (focus (simp; omega; done)) | decide)) | ((with_reducible apply (wpl_loadF (α := OM))); infer_instance; exact rfl; infer_instance; exact rfl; (first | with_reducible assumption | omega | (focus (simp; done)) | (focus (simp; omega; done)) | decide); exact rfl) | ((with_reducible apply (wpl_loadint (t := 3))); exact rfl; infer_instance; infer_instance; (first | with_reducible assumption | omega)) | ((with_reducible apply (wpl_loadbyte (t := 5))); exact rfl; infer_instance; infer_instance; (first | with_reducible assumption | omega)))
          refine wpList_nil ?_
          unfold onlyN
          refine hK_.out _ _ inferInstance (fun _ => ?_)
          clear hK_ K_
          try simp only [Act.put, sA]; try simp only [sB, sC]
          refine' takeH (i := 15) (v := _) rfl (by kernel_rfl) (by kernel_rfl) (by kernel_rfl) (fun _ _ _ h => h) (yields_of (by rfl) (fun w' _ => ?_)) inferInstance ?_
          rotate_left
          · (first | ((with_reducible apply ev_sl_lh); exact rfl; exact rfl; exact rfl; infer_instance; (first | with_reducible assumption | omega); (first | with_reducible assumption | omega)) | ((with_reducible apply ev_sl_h); exact rfl; exact rfl; infer_instance; (first | with_reducible assumption | omega)) | ((with_reducible apply ev_sl_l); exact rfl; exact rfl; infer_instance; (first | with_reducible assumption | omega)) | (go_simp; try with_reducible rfl))
          try simp only [Act.put, sA]; try simp only [sB, sC]
          refine goH (i := 8) (by kernel_rfl) rfl (fun K_ hK_ => ?_)
          rw [if_pos (by kernel_rfl)]
          refine wpr_of_list ?_
          (first | ((with_reducible apply (stop_dst (dst := some 13))); (try simp only [Act.put, sA, sB, sC]); ((with_reducible apply (wpl_bslice (dst := some 13))); (exact run_emptyO _); intro zn wb _ _ _)) | ((with_reducible apply (stop_dst (dst := some 20))); (with_reducible apply (wpl_appendR (α := OM))); exact rfl; exact rfl; infer_instance; (exact HO.ofEmptyO _ zn _); (exact HR.takeR (l := l) inferInstance i); exact rfl; (exact hl1); (omega); (decide); (decide); intro A1 c1 wa1 _ ho1 g1 hcap1) | ((with_reducible apply (stop_dst (dst := some 28))); (with_reducible apply (wpl_appendR (α := OM))); exact rfl; exact rfl; infer_instance; infer_instance; (exact HR.cutR (l := l) (n := n) inferInstance hn hcap (i + 1) 5 rfl); exact rfl; (exact hl2); (omega); (decide); (decide); intro A2 c2 wa2 _ ho2 g2 hcap2) | ((with_reducible apply wpl_appendB); exact rfl; exact rfl; infer_instance; (first | exact inferInstance | exact ⟨Own.nil _ _ _⟩); infer_instance; (first | with_reducible assumption | (with_reducible exact H32.len _) | (focus (simp; done)) | omega); (first | with_reducible assumption | omega); intro A' c' wa _ _ _ hcap))
          refine wpList_nil ?_
          unfold onlyN
          refine hK_.out _ _ inferInstance (fun _ => ?_)
          clear hK_ K_
          try simp only [Act.put, sA]; try simp only [sB, sC]
          refine goH (i := 16) (by kernel_rfl) rfl (fun K_ hK_ => ?_)
          rw [if_pos (by kernel_rfl)]
          refine wpr_of_list ?_
          (first | ((with_reducible apply (stop_dst (dst := some 13))); (try simp only [Act.put, sA, sB, sC]); ((with_reducible apply (wpl_bslice (dst := some 13))); (exact run_emptyO _); intro zn wb _ _ _)) | ((with_reducible apply (stop_dst (dst := some 20))); (with_reducible apply (wpl_appendR (α := OM))); exact rfl; exact rfl; infer_instance; (exact HO.ofEmptyO _ zn _); (exact HR.takeR (l := l) inferInstance i); exact rfl; (exact hl1); (omega); (decide); (decide); intro A1 c1 wa1 _ ho1 g1 hcap1) | ((with_reducible apply (stop_dst (dst := some 28))); (with_reducible apply (wpl_appendR (α := OM))); exact rfl; exact rfl; infer_instance; infer_instance; (exact HR.cutR (l := l) (n := n) inferInstance hn hcap (i + 1) 5 rfl); exact rfl; (exact hl2); (omega); (decide); (decide); intro A2 c2 wa2 _ ho2 g2 hcap2) | ((with_reducible apply wpl_appendB); exact rfl; exact rfl; infer_instance; (first | exact inferInstance | exact ⟨Own.nil _ _ _⟩); infer_instance; (first | with_reducible assumption | (with_reducible exact H32.len _) | (focus (simp; done)) | omega); (first | with_reducible assumption | omega); intro A' c' wa _ _ _ hcap))
          refine wpList_nil ?_
          unfold onlyN
          refine hK_.out _ _ inferInstance (fun _ => ?_)
          clear hK_ K_
          try simp only [Act.put, sA]; try simp only [sB, sC]
          refine' takeH (i := 17) (v := _) rfl (by kernel_rfl) (by kernel_rfl) (by kernel_rfl) (fun _ _ _ h => h) (yields_of (by rfl) (fun w' _ => ?_)) inferInstance ?_
          rotate_left
          · (go_simp; try with_reducible rfl)
          try simp only [Act.put, sA]; try simp only [sB, sC]
          refine' takeH (i := 18) (v := _) rfl (by kernel_rfl) (by kernel_rfl) (by kernel_rfl) (fun _ _ _ h => h) (yields_of (by rfl) (fun w' _ => ?_)) inferInstance ?_
          rotate_left
          · (first | ((with_reducible apply (ev_fieldE (t := 90))); (exact Try.underlying90); exact rfl; (kernel_rfl); exact rfl; infer_instance; (exact cells_pos (by decide) (by omega))) | (go_simp; try with_reducible rfl))
          try simp only [Act.put, sA]; try simp only [sB, sC]
          refine goH (i := 19) (by kernel_rfl) rfl (fun K_ hK_ => ?_)
          rw [if_pos (by kernel_rfl)]
          refine wpr_of_list ?_
          (first | ((with_reducible apply (stop_dst (dst := some 13))); (try simp only [Act.put, sA, sB, sC]); ((with_reducible apply (wpl_bslice (dst := some 13))); (exact run_emptyO _); intro zn wb _ _ _)) | ((with_reducible apply (stop_dst (dst := some 20))); (with_reducible apply (wpl_appendR (α := OM))); exact rfl; exact rfl; infer_instance; (exact HO.ofEmptyO _ zn _); (exact HR.takeR (l := l) inferInstance i); exact rfl; (exact hl1); (omega); (decide); (decide); intro A1 c1 wa1 _ ho1 g1 hcap1) | ((with_reducible apply (stop_dst (dst := some 28))); (with_reducible apply (wpl_appendR (α := OM))); exact rfl; exact rfl; infer_instance; infer_instance; (exact HR.cutR (l := l) (n := n) inferInstance hn hcap (i + 1) 5 rfl); exact rfl; (exact hl2); (omega); (decide); (decide); intro A2 c2 wa2 _ ho2 g2 hcap2) | ((with_reducible apply wpl_storerow); exact rfl; exact rfl; infer_instance; infer_instance; (first | with_reducible assumption | (with_reducible exact enc_sz _ rfl) | kernel_rfl); (first | with_reducible assumption | (with_reducible exact enc_sz _ rfl) | kernel_rfl); (first | (with_reducible exact u8s_one _) | with_reducible assumption | (with_reducible exact enc_one _) | kernel_rfl); intro ws _ _) | ((with_reducible apply wpl_storecell); exact rfl; exact rfl; infer_instance; exact rfl; (first | with_reducible assumption | omega | (focus (simp; done)) | (focus (simp; omega; done)) | decide); intro ws _ _) | ((with_reducible apply (wpl_storeint (t := 3))); exact rfl; exact rfl; infer_instance; (first | with_reducible assumption | omega); intro ws _ _) | ((with_reducible apply (wpl_storebyte (t := 5))); exact rfl; exact rfl; infer_instance; (first | with_reducible assumption | omega | (focus (simp; done)) | (focus (simp; omega; done)) | decide); (constructor <;> omega); intro ws _ _))
          refine wpList_nil ?_
          unfold onlyN
          refine hK_.out _ _ inferInstance (fun _ => ?_)
          clear hK_ K_
          try simp only [Act.put]
          refine wpAnyH_done (by kernel_rfl) ?_ _
      case' br4_12 =>
        rw [if_pos (by kernel_rfl)]
        refine wpr_of_list ?_
        (first | ((with_reducible apply (stop_dst (dst := some 13))); (try simp only [Act.put, sA, sB, sC]); ((with_reducible apply (wpl_bslice (dst := some 13))); (exact run_emptyO _); intro zn wb _ _ _)) | ((with_reducible apply (stop_dst (dst := some 20))); (with_reducible apply (wpl_appendR (α := OM))); exact rfl; exact rfl; infer_instance; (exact HO.ofEmptyO _ zn _); (exact HR.takeR (l := l) inferInstance i); exact rfl; (exact hl1); (omega); (decide); (decide); intro A1 c1 wa1 _ ho1 g1 hcap1) | ((with_reducible apply (stop_dst (dst := some 28))); (with_reducible apply (wpl_appendR (α := OM))); exact rfl; exact rfl; infer_instance; infer_instance; (exact HR.cutR (l := l) (n := n) inferInstance hn hcap (i + 1) 5 rfl); exact rfl; (exact hl2); (omega); (decide); (decide); intro A2 c2 wa2 _ ho2 g2 hcap2) | ((with_reducible apply wpl_loadrow); exact rfl; infer_instance; infer_instance; (first | with_reducible assumption | (with_reducible exact enc_sz _ rfl) | kernel_rfl)) | ((with_reducible apply wpl_loadcellN); exact rfl; infer_instance; exact rfl) | ((with_reducible apply (wpl_loadE (α := OM) (t := 90))); infer_instance; exact rfl; infer_instance; exact rfl; (decide); (first | with_reducible assumption | omega | (focus (simp; done)) | (focus (simp; omega; done)) | decide)) | ((with_reducible apply (wpl_loadF (α := OM))); infer_instance; exact rfl; infer_instance; exact rfl; (first | with_reducible assumption | omega | (focus (simp; done)) | (focus (simp; omega; done)) | decide); exact rfl) | ((with_reducible apply (wpl_loadint (t := 3))); exact rfl; infer_instance; infer_instance; (first | with_reducible assumption | omega)) | ((with_reducible apply (wpl_loadbyte (t := 5))); exact rfl; infer_instance; infer_instance; (first | with_reducible assumption | omega)))
        refine wpList_nil ?_
        unfold onlyN
        refine hK_.out _ _ inferInstance (fun _ => ?_)
        clear hK_ K_
        try simp only [Act.put, sA]; try simp only [sB, sC]
        refine' takeH (i := 15) (v := _) rfl (by kernel_rfl) (by kernel_rfl) (by kernel_rfl) (fun _ _ _ h => h) (yields_of (by rfl) (fun w' _ => ?_)) inferInstance ?_
        rotate_left
        · (first | ((with_reducible apply ev_sl_lh); exact rfl; exact rfl; exact rfl; infer_instance; (first | with_reducible assumption | omega); (first | with_reducible assumption | omega)) | ((with_reducible apply ev_sl_h); exact rfl; exact rfl; infer_instance; (first | with_reducible assumption | omega)) | ((with_reducible apply ev_sl_l); exact rfl; exact rfl; infer_instance; (first | with_reducible assumption | omega)) | (go_simp; try with_reducible rfl))
        try simp only [Act.put, sA]; try simp only [sB, sC]
        refine goH (i := 1) (by kernel_rfl) rfl (fun K_ hK_ => ?_)
        rw [if_pos (by kernel_rfl)]
        refine wpr_of_list ?_
        (first | ((with_reducible apply (stop_dst (dst := some 13))); (try simp only [Act.put, sA, sB, sC]); ((with_reducible apply (wpl_bslice (dst := some 13))); (exact run_emptyO _); intro zn wb _ _ _)) | ((with_reducible apply (stop_dst (dst := some 20))); (with_reducible apply (wpl_appendR (α := OM))); exact rfl; exact rfl; infer_instance; (exact HO.ofEmptyO _ zn _); (exact HR.takeR (l := l) inferInstance i); exact rfl; (exact hl1); (omega); (decide); (decide); intro A1 c1 wa1 _ ho1 g1 hcap1) | ((with_reducible apply (stop_dst (dst := some 28))); (with_reducible apply (wpl_appendR (α := OM))); exact rfl; exact rfl; infer_instance; infer_instance; (exact HR.cutR (l := l) (n := n) inferInstance hn hcap (i + 1) 5 rfl); exact rfl; (exact hl2); (omega); (decide); (decide); intro A2 c2 wa2 _ ho2 g2 hcap2))
        refine wpList_nil ?_
        unfold onlyN
        refine hK_.out _ _ inferInstance (fun _ => ?_)
        clear hK_ K_
        try simp only [Act.put, sA]; try simp only [sB, sC]
        refine goH (i := 8) (by kernel_rfl) rfl (fun K_ hK_ => ?_)
        rw [if_pos (by kernel_rfl)]
        refine wpr_of_list ?_
        (first | ((with_reducible apply (stop_dst (dst := some 13))); (try simp only [Act.put, sA, sB, sC]); ((with_reducible apply (wpl_bslice (dst := some 13))); (exact run_emptyO _); intro zn wb _ _ _)) | ((with_reducible apply (stop_dst (dst := some 20))); (with_reducible apply (wpl_appendR (α := OM))); exact rfl; exact rfl; infer_instance; (exact HO.ofEmptyO _ zn _); (exact HR.takeR (l := l) inferInstance i); exact rfl; (exact hl1); (omega); (decide); (decide); intro A1 c1 wa1 _ ho1 g1 hcap1) | ((with_reducible apply (stop_dst (dst := some 28))); (with_reducible apply (wpl_appendR (α := OM))); exact rfl; exact rfl; infer_instance; infer_instance; (exact HR.cutR (l := l) (n := n) inferInstance hn hcap (i + 1) 5 rfl); exact rfl; (exact hl2); (omega); (decide); (decide); intro A2 c2 wa2 _ ho2 g2 hcap2) | ((with_reducible apply wpl_appendB); exact rfl; exact rfl; infer_instance; (first | exact inferInstance | exact ⟨Own.nil _ _ _⟩); infer_instance; (first | with_reducible assumption | (with_reducible exact H32.len _) | (focus (simp; done)) | omega); (first | with_reducible assumption | omega); intro A' c' wa _ _ _ hcap))
        refine wpList_nil ?_
        unfold onlyN
        refine hK_.out _ _ inferInstance (fun _ => ?_)
        clear hK_ K_
        try simp only [Act.put, sA]; try simp only [sB, sC]
        refine goH (i := 16) (by kernel_rfl) rfl (fun K_ hK_ => ?_)
        rw [if_pos (by kernel_rfl)]
        refine wpr_of_list ?_
        (first | ((with_reducible apply (stop_dst (dst := some 13))); (try simp only [Act.put, sA, sB, sC]); ((with_reducible apply (wpl_bslice (dst := some 13))); (exact run_emptyO _); intro zn wb _ _ _)) | ((with_reducible apply (stop_dst (dst := some 20))); (with_reducible apply (wpl_appendR (α := OM))); exact rfl; exact rfl; infer_instance; (exact HO.ofEmptyO _ zn _); (exact HR.takeR (l := l) inferInstance i); exact rfl; (exact hl1); (omega); (decide); (decide); intro A1 c1 wa1 _ ho1 g1 hcap1) | ((with_reducible apply (stop_dst (dst := some 28))); (with_reducible apply (wpl_appendR (α := OM))); exact rfl; exact rfl; infer_instance; infer_instance; (exact HR.cutR (l := l) (n := n) inferInstance hn hcap (i + 1) 5 rfl); exact rfl; (exact hl2); (omega); (decide); (decide); intro A2 c2 wa2 _ ho2 g2 hcap2) | ((with_reducible apply wpl_appendB); exact rfl; exact rfl; infer_instance; (first | exact inferInstance | exact ⟨Own.nil _ _ _⟩); infer_instance; (first | with_reducible assumption | (with_reducible exact H32.len _) | (focus (simp; done)) | omega); (first | with_reducible assumption | omega); intro A' c' wa _ _ _ hcap))
        refine wpList_nil ?_
        unfold onlyN
        refine hK_.out _ _ inferInstance (fun _ => ?_)
        clear hK_ K_
        try simp only [Act.put, sA]; try simp only [sB, sC]
        refine' takeH (i := 17) (v := _) rfl (by kernel_rfl) (by kernel_rfl) (by kernel_rfl) (fun _ _ _ h => h) (yields_of (by rfl) (fun w' _ => ?_)) inferInstance ?_
        rotate_left
        · (go_simp; try with_reducible rfl)
        try simp only [Act.put, sA]; try simp only [sB, sC]
        refine' takeH (i := 18) (v := _) rfl (by kernel_rfl) (by kernel_rfl) (by kernel_rfl) (fun _ _ _ h => h) (yields_of (by rfl) (fun w' _ => ?_)) inferInstance ?_
        rotate_left
        · (first | ((with_reducible apply (ev_fieldE (t := 90))); (exact Try.underlying90); exact rfl; (kernel_rfl); exact rfl; infer_instance; (exact cells_pos (by decide) (by omega))) | (go_simp; try with_reducible rfl))
        try simp only [Act.put, sA]; try simp only [sB, sC]
        refine goH (i := 19) (by kernel_rfl) rfl (fun K_ hK_ => ?_)
        rw [if_pos (by kernel_rfl)]
        refine wpr_of_list ?_
        (first | ((with_reducible apply (stop_dst (dst := some 13))); (try simp only [Act.put, sA, sB, sC]); ((with_reducible apply (wpl_bslice (dst := some 13))); (exact run_emptyO _); intro zn wb _ _ _)) | ((with_reducible apply (stop_dst (dst := some 20))); (with_reducible apply (wpl_appendR (α := OM))); exact rfl; exact rfl; infer_instance; (exact HO.ofEmptyO _ zn _); (exact HR.takeR (l := l) inferInstance i); exact rfl; (exact hl1); (omega); (decide); (decide); intro A1 c1 wa1 _ ho1 g1 hcap1) | ((with_reducible apply (stop_dst (dst := some 28))); (with_reducible apply (wpl_appendR (α := OM))); exact rfl; exact rfl; infer_instance; infer_instance; (exact HR.cutR (l := l) (n := n) inferInstance hn hcap (i + 1) 5 rfl); exact rfl; (exact hl2); (omega); (decide); (decide); intro A2 c2 wa2 _ ho2 g2 hcap2) | ((with_reducible apply wpl_storerow); exact rfl; exact rfl; infer_instance; infer_instance; (first | with_reducible assumption | (with_reducible exact enc_sz _ rfl) | kernel_rfl); (first | with_reducible assumption | (with_reducible exact enc_sz _ rfl) | kernel_rfl); (first | (with_reducible exact u8s_one _) | with_reducible assumption | (with_reducible exact enc_one _) | kernel_rfl); intro ws _ _) | ((with_reducible apply wpl_storecell); exact rfl; exact rfl; infer_instance; exact rfl; (first | with_reducible assumption | omega | (focus (simp; done)) | (focus (simp; omega; done)) | decide); intro ws _ _) | ((with_reducible apply (wpl_storeint (t := 3))); exact rfl; exact rfl; infer_instance; (first | with_reducible assumption | omega); intro ws _ _) | ((with_reducible apply (wpl_storebyte (t := 5))); exact rfl; exact rfl; infer_instance; (first | with_reducible assumption | omega | (focus (simp; done)) | (focus (simp; omega; done)) | decide); (constructor <;> omega); intro ws _ _))
        refine wpList_nil ?_
        unfold onlyN
        refine hK_.out _ _ inferInstance (fun _ => ?_)
        clear hK_ K_
        try simp only [Act.put]
        refine wpAnyH_done (by kernel_rfl) ?_ _
    case' br1_12 =>
      rw [if_pos (by kernel_rfl)]
      refine wpr_of_list ?_
      (first | ((with_reducible apply (stop_dst (dst := some 13))); (try simp only [Act.put, sA, sB, sC]); ((with_reducible apply (wpl_bslice (dst := some 13))); (exact run_emptyO _); intro zn wb _ _ _)) | ((with_reducible apply (stop_dst (dst := some 20))); (with_reducible apply (wpl_appendR (α := OM))); exact rfl; exact rfl; infer_instance; (exact HO.ofEmptyO _ zn _); (exact HR.takeR (l := l) inferInstance i); exact rfl; (exact hl1); (omega); (decide); (decide); intro A1 c1 wa1 _ ho1 g1 hcap1) | ((with_reducible apply (stop_dst (dst := some 28))); (with_reducible apply (wpl_appendR (α := OM))); exact rfl; exact rfl; infer_instance; infer_instance; (exact HR.cutR (l := l) (n := n) inferInstance hn hcap (i + 1) 5 rfl); exact rfl; (exact hl2); (omega); (decide); (decide); intro A2 c2 wa2 _ ho2 g2 hcap2) | ((with_reducible apply wpl_loadrow); exact rfl; infer_instance; infer_instance; (first | with_reducible assumption | (with_reducible exact enc_sz _ rfl) | kernel_rfl)) | ((with_reducible apply wpl_loadcellN); exact rfl; infer_instance; exact rfl) | ((with_reducible apply (wpl_loadE (α := OM) (t := 90))); infer_instance; exact rfl; infer_instance; exact rfl; (decide); (first | with_reducible assumption | omega | (focus (simp; done)) | (focus (simp; omega; done)) | decide)) | ((with_reducible apply (wpl_loadF (α := OM))); infer_instance; exact rfl; infer_instance; exact rfl; (first | with_reducible assumption | omega | (focus (simp; done)) | (focus (simp; omega; done)) | decide); exact rfl) | ((with_reducible apply (wpl_loadint (t := 3))); exact rfl; infer_instance; infer_instance; (first | with_reducible assumption | omega)) | ((with_reducible apply (wpl_loadbyte (t := 5))); exact rfl; infer_instance; infer_instance; (first | with_reducible assumption | omega)))
      refine wpList_nil ?_
      unfold onlyN
      refine hK_.out _ _ inferInstance (fun _ => ?_)
      clear hK_ K_
      try simp only [Act.put, sA]; try simp only [sB, sC]
      refine' takeH (i := 15) (v := _) rfl (by kernel_rfl) (by kernel_rfl) (by kernel_rfl) (fun _ _ _ h => h) (yields_of (by rfl) (fun w' _ => ?_)) inferInstance ?_
      rotate_left
      · (first | ((with_reducible apply ev_sl_lh); exact rfl; exact rfl; exact rfl; infer_instance; (first | with_reducible assumption | omega); (first | with_reducible assumption | omega)) | ((with_reducible apply ev_sl_h); exact rfl; exact rfl; infer_instance; (first | with_reducible assumption | omega)) | ((with_reducible apply ev_sl_l); exact rfl; exact rfl; infer_instance; (first | with_reducible assumption | omega)) | (go_simp; try with_reducible rfl))
      try simp only [Act.put, sA]; try simp only [sB, sC]
      refine wpAnyH_ready (rs := [1, 5]) (by kernel_rfl) (by simp) (AllReadyH.cons rfl (fun K_ hK_ => ?br6_1) (AllReadyH.cons rfl (fun K_ hK_ => ?br6_5) AllReadyH.nil))
      case' br6_1 =>
        rw [if_pos (by kernel_rfl)]
        refine wpr_of_list ?_
        (first | ((with_reducible apply (stop_dst (dst := some 13))); (try simp only [Act.put, sA, sB, sC]); ((with_reducible apply (wpl_bslice (dst := some 13))); (exact run_emptyO _); intro zn wb _ _ _)) | ((with_reducible apply (stop_dst (dst := some 20))); (with_reducible apply (wpl_appendR (α := OM))); exact rfl; exact rfl; infer_instance; (exact HO.ofEmptyO _ zn _); (exact HR.takeR (l := l) inferInstance i); exact rfl; (exact hl1); (omega); (decide); (decide); intro A1 c1 wa1 _ ho1 g1 hcap1) | ((with_reducible apply (stop_dst (dst := some 28))); (with_reducible apply (wpl_appendR (α := OM))); exact rfl; exact rfl; infer_instance; infer_instance; (exact HR.cutR (l := l) (n := n) inferInstance hn hcap (i + 1) 5 rfl); exact rfl; (exact hl2); (omega); (decide); (decide); intro A2 c2 wa2 _ ho2 g2 hcap2))
        refine wpList_nil ?_
        unfold onlyN
        refine hK_.out _ _ inferInstance (fun _ => ?_)
        clear hK_ K_
        try simp only [Act.put, sA]; try simp only [sB, sC]
        refine goH (i := 5) (by kernel_rfl) rfl (fun K_ hK_ => ?_)
        rw [if_pos (by kernel_rfl)]
        refine wpr_of_list ?_
        (first | ((with_reducible apply (stop_dst (dst := some 13))); (try simp only [Act.put, sA, sB, sC]); ((with_reducible apply (wpl_bslice (dst := some 13))); (exact run_emptyO _); intro zn wb _ _ _)) | ((with_reducible apply (stop_dst (dst := some 20))); (with_reducible apply (wpl_appendR (α := OM))); exact rfl; exact rfl; infer_instance; (exact HO.ofEmptyO _ zn _); (exact HR.takeR (l := l) inferInstance i); exact rfl; (exact hl1); (omega); (decide); (decide); intro A1 c1 wa1 _ ho1 g1 hcap1) | ((with_reducible apply (stop_dst (dst := some 28))); (with_reducible apply (wpl_appendR (α := OM))); exact rfl; exact rfl; infer_instance; infer_instance; (exact HR.cutR (l := l) (n := n) inferInstance hn hcap (i + 1) 5 rfl); exact rfl; (exact hl2); (omega); (decide); (decide); intro A2 c2 wa2 _ ho2 g2 hcap2) | ((with_reducible apply wpl_loadrow); exact rfl; infer_instance; infer_instance; (first | with_reducible assumption | (with_reducible exact enc_sz _ rfl) | kernel_rfl)) | ((with_reducible apply wpl_loadcellN); exact rfl; infer_instance; exact rfl) | ((with_reducible apply (wpl_loadE (α := OM) (t := 90))); infer_instance; exact rfl; infer_instance; exact rfl; (decide); (first | with_reducible assumption | omega | (focus (simp; done)) | (focus (simp; omega; done)) | decide)) | ((with_reducible apply (wpl_loadF (α := OM))); infer_instance; exact rfl; infer_instance; exact rfl; (first | with_reducible assumption | omega | (focus (simp; done)) | (focus (simp; omega; done)) | decide); exact rfl) | ((with_reducible apply (wpl_loadint (t := 3))); exact rfl; infer_instance; infer_instance; (first | with_reducible assumption | omega)) | ((with_reducible apply (wpl_loadbyte (t := 5))); exact rfl; infer_instance; infer_instance; (first | with_reducible assumption | omega)))
        refine wpList_nil ?_
        unfold onlyN
        refine hK_.out _ _ inferInstance (fun _ => ?_)
        clear hK_ K_
        try simp only [Act.put, sA]; try simp only [sB, sC]
        refine' takeH (i := 7) (v := _) rfl (by kernel_rfl) (by kernel_rfl) (by kernel_rfl) (fun _ _ _ h => h) (yields_of (by rfl) (fun w' _ => ?_)) inferInstance ?_
        rotate_left
        · (first | ((with_reducible apply ev_sl_lh); exact rfl; exact rfl; exact rfl; infer_instance; (first | with_reducible assumption | omega); (first | with_reducible assumption | omega)) | ((with_reducible apply ev_sl_h); exact rfl; exact rfl; infer_instance; (first | with_reducible assumption | omega)) | ((with_reducible apply ev_sl_l); exact rfl; exact rfl; infer_instance; (first | with_reducible assumption | omega)) | (go_simp; try with_reducible rfl))
        try simp only [Act.put, sA]; try simp only [sB, sC]
        refine goH (i := 8) (by kernel_rfl) rfl (fun K_ hK_ => ?_)
        rw [if_pos (by kernel_rfl)]
        refine wpr_of_list ?_
        (first | ((with_reducible apply (stop_dst (dst := some 13))); (try simp only [Act.put, sA, sB, sC]); ((with_reducible apply (wpl_bslice (dst := some 13))); (exact run_emptyO _); intro zn wb _ _ _)) | ((with_reducible apply (stop_dst (dst := some 20))); (with_reducible apply (wpl_appendR (α := OM))); exact rfl; exact rfl; infer_instance; (exact HO.ofEmptyO _ zn _); (exact HR.takeR (l := l) inferInstance i); exact rfl; (exact hl1); (omega); (decide); (decide); intro A1 c1 wa1 _ ho1 g1 hcap1) | ((with_reducible apply (stop_dst (dst := some 28))); (with_reducible apply (wpl_appendR (α := OM))); exact rfl; exact rfl; infer_instance; infer_instance; (exact HR.cutR (l := l) (n := n) inferInstance hn hcap (i + 1) 5 rfl); exact rfl; (exact hl2); (omega); (decide); (decide); intro A2 c2 wa2 _ ho2 g2 hcap2) | ((with_reducible apply wpl_appendB); exact rfl; exact rfl; infer_instance; (first | exact inferInstance | exact ⟨Own.nil _ _ _⟩); infer_instance; (first | with_reducible assumption | (with_reducible exact H32.len _) | (focus (simp; done)) | omega); (first | with_reducible assumption | omega); intro A' c' wa _ _ _ hcap))
        refine wpList_nil ?_
        unfold onlyN
        refine hK_.out _ _ inferInstance (fun _ => ?_)
        clear hK_ K_
        try simp only [Act.put, sA]; try simp only [sB, sC]
        refine goH (i := 16) (by kernel_rfl) rfl (fun K_ hK_ => ?_)
        rw [if_pos (by kernel_rfl)]
        refine wpr_of_list ?_
        (first | ((with_reducible apply (stop_dst (dst := some 13))); (try simp only [Act.put, sA, sB, sC]); ((with_reducible apply (wpl_bslice (dst := some 13))); (exact run_emptyO _); intro zn wb _ _ _)) | ((with_reducible apply (stop_dst (dst := some 20))); (with_reducible apply (wpl_appendR (α := OM))); exact rfl; exact rfl; infer_instance; (exact HO.ofEmptyO _ zn _); (exact HR.takeR (l := l) inferInstance i); exact rfl; (exact hl1); (omega); (decide); (decide); intro A1 c1 wa1 _ ho1 g1 hcap1) | ((with_reducible apply (stop_dst (dst := some 28))); (with_reducible apply (wpl_appendR (α := OM))); exact rfl; exact rfl; infer_instance; infer_instance; (exact HR.cutR (l := l) (n := n) inferInstance hn hcap (i + 1) 5 rfl); exact rfl; (exact hl2); (omega); (decide); (decide); intro A2 c2 wa2 _ ho2 g2 hcap2) | ((with_reducible apply wpl_appendB); exact rfl; exact rfl; infer_instance; (first | exact inferInstance | exact ⟨Own.nil _ _ _⟩); infer_instance; (first | with_reducible assumption | (with_reducible exact H32.len _) | (focus (simp; done)) | omega); (first | with_reducible assumption | omega); intro A' c' wa _ _ _ hcap))
        refine wpList_nil ?_
        unfold onlyN
        refine hK_.out _ _ inferInstance (fun _ => ?_)
        clear hK_ K_
        try simp only [Act.put, sA]; try simp only [sB, sC]
        refine' takeH (i := 17) (v := _) rfl (by kernel_rfl) (by kernel_rfl) (by kernel_rfl) (fun _ _ _ h => h) (yields_of (by rfl) (fun w' _ => ?_)) inferInstance ?_
        rotate_left
        · (go_simp; try with_reducible rfl)
        try simp only [Act.put, sA]; try simp only [sB, sC]
        refine' takeH (i := 18) (v := _) rfl (by kernel_rfl) (by kernel_rfl) (by kernel_rfl) (fun _ _ _ h => h) (yields_of (by rfl) (fun w' _ => ?_)) inferInstance ?_
        rotate_left
        · (first | ((with_reducible apply (ev_fieldE (t := 90))); (exact Try.underlying90); exact rfl; (kernel_rfl); exact rfl; infer_instance; (exact cells_pos (by decide) (by omega))) | (go_simp; try with_reducible rfl))
        try simp only [Act.put, sA]; try simp only [sB, sC]
        refine goH (i := 19) (by kernel_rfl) rfl (fun K_ hK_ => ?_)
        rw [if_pos (by kernel_rfl)]
        refine wpr_of_list ?_
        (first | ((with_reducible apply (stop_dst (dst := some 13))); (try simp only [Act.put, sA, sB, sC]); ((with_reducible apply (wpl_bslice (dst := some 13))); (exact run_emptyO _); intro zn wb _ _ _)) | ((with_reducible apply (stop_dst (dst := some 20))); (with_reducible apply (wpl_appendR (α := OM))); exact rfl; exact rfl; infer_instance; (exact HO.ofEmptyO _ zn _); (exact HR.takeR (l := l) inferInstance i); exact rfl; (exact hl1); (omega); (decide); (decide); intro A1 c1 wa1 _ ho1 g1 hcap1) | ((with_reducible apply (stop_dst (dst := some 28))); (with_reducible apply (wpl_appendR (α := OM))); exact rfl; exact rfl; infer_instance; infer_instance; (exact HR.cutR (l := l) (n := n) inferInstance hn hcap (i + 1) 5 rfl); exact rfl; (exact hl2); (omega); (decide); (decide); intro A2 c2 wa2 _ ho2 g2 hcap2) | ((with_reducible apply wpl_storerow); exact rfl; exact rfl; infer_instance; infer_instance; (first | with_reducible assumption | (with_reducible exact enc_sz _ rfl) | kernel_rfl); (first | with_reducible assumption | (with_reducible exact enc_sz _ rfl) | kernel_rfl); (first | (with_reducible exact u8s_one _) | with_reducible assumption | (with_reducible exact enc_one _) | kernel_rfl); intro ws _ _) | ((with_reducible apply wpl_storecell); exact rfl; exact rfl; infer_instance; exact rfl; (first | with_reducible assumption | omega | (focus (simp; done)) | (focus (simp; omega; done)) | decide); intro ws _ _) | ((with_reducible apply (wpl_storeint (t := 3))); exact rfl; exact rfl; infer_instance; (first | with_reducible assumption | omega); intro ws _ _) | ((with_reducible apply (wpl_storebyte (t := 5))); exact rfl; exact rfl; infer_instance; (first | with_reducible assumption | omega | (focus (simp; done)) | (focus (simp; omega; done)) | decide); (constructor <;> omega); intro ws _ _))
        refine wpList_nil ?_
        unfold onlyN
        refine hK_.out _ _ inferInstance (fun _ => ?_)
        clear hK_ K_
        try simp only [Act.put]
        refine wpAnyH_done (by kernel_rfl) ?_ _
      case' br6_5 =>
        rw [if_pos (by kernel_rfl)]
        refine wpr_of_list ?_
        (first | ((with_reducible apply (stop_dst (dst := some 13))); (try simp only [Act.put, sA, sB, sC]); ((with_reducible apply (wpl_bslice (dst := some 13))); (exact run_emptyO _); intro zn wb _ _ _)) | ((with_reducible apply (stop_dst (dst := some 20))); (with_reducible apply (wpl_appendR (α := OM))); exact rfl; exact rfl; infer_instance; (exact HO.ofEmptyO _ zn _); (exact HR.takeR (l := l) inferInstance i); exact rfl; (exact hl1); (omega); (decide); (decide); intro A1 c1 wa1 _ ho1 g1 hcap1) | ((with_reducible apply (stop_dst (dst := some 28))); (with_reducible apply (wpl_appendR (α := OM))); exact rfl; exact rfl; infer_instance; infer_instance; (exact HR.cutR (l := l) (n := n) inferInstance hn hcap (i + 1) 5 rfl); exact rfl; (exact hl2); (omega); (decide); (decide); intro A2 c2 wa2 _ ho2 g2 hcap2) | ((with_reducible apply wpl_loadrow); exact rfl; infer_instance; infer_instance; (first | with_reducible assumption | (with_reducible exact enc_sz _ rfl) | kernel_rfl)) | ((with_reducible apply wpl_loadcellN); exact rfl; infer_instance; exact rfl) | ((with_reducible apply (wpl_loadE (α := OM) (t := 90))); infer_instance; exact rfl; infer_instance; exact rfl; (decide); (first | with_reducible assumption | omega | (focus (simp; done)) | (focus (simp; omega; done)) | decide)) | ((with_reducible apply (wpl_loadF (α := OM))); infer_instance; exact rfl; infer_instance; exact rfl; (first | with_reducible assumption | omega | (focus (simp; done)) | (focus (simp; omega; done)) | decide); exact rfl) | ((with_reducible apply (wpl_loadint (t := 3))); exact rfl; infer_instance; infer_instance; (first | with_reducible assumption | omega)) | ((with_reducible apply (wpl_loadbyte (t := 5))); exact rfl; infer_instance; infer_instance; (first | with_reducible assumption | omega)))
        refine wpList_nil ?_
        unfold onlyN
        refine hK_.out _ _ inferInstance (fun _ => ?_)
        clear hK_ K_
        try simp only [Act.put, sA]; try simp only [sB, sC]
        refine' takeH (i := 7) (v := _) rfl (by kernel_rfl) (by kernel_rfl) (by kernel_rfl) (fun _ _ _ h => h) (yields_of (by rfl) (fun w' _ => ?_)) inferInstance ?_
        rotate_left
        · (first | ((with_reducible apply ev_sl_lh); exact rfl; exact rfl; exact rfl; infer_instance; (first | with_reducible assumption | omega); (first | with_reducible assumption | omega)) | ((with_reducible apply ev_sl_h); exact rfl; exact rfl; infer_instance; (first | with_reducible assumption | omega)) | ((with_reducible apply ev_sl_l); exact rfl; exact rfl; infer_instance; (first | with_reducible assumption | omega)) | (go_simp; try with_reducible rfl))
        try simp only [Act.put, sA]; try simp only [sB, sC]
        refine goH (i := 1) (by kernel_rfl) rfl (fun K_ hK_ => ?_)
        rw [if_pos (by kernel_rfl)]
        refine wpr_of_list ?_
        (first | ((with_reducible apply (stop_dst (dst := some 13))); (try simp only [Act.put, sA, sB, sC]); ((with_reducible apply (wpl_bslice (dst := some 13))); (exact run_emptyO _); intro zn wb _ _ _)) | ((with_reducible apply (stop_dst (dst := some 20))); (with_reducible apply (wpl_appendR (α := OM))); exact rfl; exact rfl; infer_instance; (exact HO.ofEmptyO _ zn _); (exact HR.takeR (l := l) inferInstance i); exact rfl; (exact hl1); (omega); (decide); (decide); intro A1 c1 wa1 _ ho1 g1 hcap1) | ((with_reducible apply (stop_dst (dst := some 28))); (with_reducible apply (wpl_appendR (α := OM))); exact rfl; exact rfl; infer_instance; infer_instance; (exact HR.cutR (l := l) (n := n) inferInstance hn hcap (i + 1) 5 rfl); exact rfl; (exact hl2); (omega); (decide); (decide); intro A2 c2 wa2 _ ho2 g2 hcap2))
        refine wpList_nil ?_
        unfold onlyN
        refine hK_.out _ _ inferInstance (fun _ => ?_)
        clear hK_ K_
        try simp only [Act.put, sA]; try simp only [sB, sC]
        refine goH (i := 8) (by kernel_rfl) rfl (fun K_ hK_ => ?_)
        rw [if_pos (by kernel_rfl)]
        refine wpr_of_list ?_
        (first | ((with_reducible apply (stop_dst (dst := some 13))); (try simp only [Act.put, sA, sB, sC]); ((with_reducible apply (wpl_bslice (dst := some 13))); (exact run_emptyO _); intro zn wb _ _ _)) | ((with_reducible apply (stop_dst (dst := some 20))); (with_reducible apply (wpl_appendR (α := OM))); exact rfl; exact rfl; infer_instance; (exact HO.ofEmptyO _ zn _); (exact HR.takeR (l := l) inferInstance i); exact rfl; (exact hl1); (omega); (decide); (decide); intro A1 c1 wa1 _ ho1 g1 hcap1) | ((with_reducible apply (stop_dst (dst := some 28))); (with_reducible apply (wpl_appendR (α := OM))); exact rfl; exact rfl; infer_instance; infer_instance; (exact HR.cutR (l := l) (n := n) inferInstance hn hcap (i + 1) 5 rfl); exact rfl; (exact hl2); (omega); (decide); (decide); intro A2 c2 wa2 _ ho2 g2 hcap2) | ((with_reducible apply wpl_appendB); exact rfl; exact rfl; infer_instance; (first | exact inferInstance | exact ⟨Own.nil _ _ _⟩); infer_instance; (first | with_reducible assumption | (with_reducible exact H32.len _) | (focus (simp; done)) | omega); (first | with_reducible assumption | omega); intro A' c' wa _ _ _ hcap))
        refine wpList_nil ?_
        unfold onlyN
        refine hK_.out _ _ inferInstance (fun _ => ?_)
        clear hK_ K_
        try simp only [Act.put, sA]; try simp only [sB, sC]
        refine goH (i := 16) (by kernel_rfl) rfl (fun K_ hK_ => ?_)
        rw [if_pos (by kernel_rfl)]
        refine wpr_of_list ?_
        (first | ((with_reducible apply (stop_dst (dst := some 13))); (try simp only [Act.put, sA, sB, sC]); ((with_reducible apply (wpl_bslice (dst := some 13))); (exact run_emptyO _); intro zn wb _ _ _)) | ((with_reducible apply (stop_dst (dst := some 20))); (with_reducible apply (wpl_appendR (α := OM))); exact rfl; exact rfl; infer_instance; (exact HO.ofEmptyO _ zn _); (exact HR.takeR (l := l) inferInstance i); exact rfl; (exact hl1); (omega); (decide); (decide); intro A1 c1 wa1 _ ho1 g1 hcap1) | ((with_reducible apply (stop_dst (dst := some 28))); (with_reducible apply (wpl_appendR (α := OM))); exact rfl; exact rfl; infer_instance; infer_instance; (exact HR.cutR (l := l) (n := n) inferInstance hn hcap (i + 1) 5 rfl); exact rfl; (exact hl2); (omega); (decide); (decide); intro A2 c2 wa2 _ ho2 g2 hcap2) | ((with_reducible apply wpl_appendB); exact rfl; exact rfl; infer_instance; (first | exact inferInstance | exact ⟨Own.nil _ _ _⟩); infer_instance; (first | with_reducible assumption | (with_reducible exact H32.len _) | (focus (simp; done)) | omega); (first | with_reducible assumption | omega); intro A' c' wa _ _ _ hcap))
        refine wpList_nil ?_
        unfold onlyN
        refine hK_.out _ _ inferInstance (fun _ => ?_)
        clear hK_ K_
        try simp only [Act.put, sA]; try simp only [sB, sC]
        refine' takeH (i := 17) (v := _) rfl (by kernel_rfl) (by kernel_rfl) (by kernel_rfl) (fun _ _ _ h => h) (yields_of (by rfl) (fun w' _ => ?_)) inferInstance ?_
        rotate_left
        · (go_simp; try with_reducible rfl)
        try simp only [Act.put, sA]; try simp only [sB, sC]
        refine' takeH (i := 18) (v := _) rfl (by kernel_rfl) (by kernel_rfl) (by kernel_rfl) (fun _ _ _ h => h) (yields_of (by rfl) (fun w' _ => ?_)) inferInstance ?_
        rotate_left
        · (first | ((with_reducible apply (ev_fieldE (t := 90))); (exact Try.underlying90); exact rfl; (kernel_rfl); exact rfl; infer_instance; (exact cells_pos (by decide) (by omega))) | (go_simp; try with_reducible rfl))
        try simp only [Act.put, sA]; try simp only [sB, sC]
        refine goH (i := 19) (by kernel_rfl) rfl (fun K_ hK_ => ?_)
        rw [if_pos (by kernel_rfl)]
        refine wpr_of_list ?_
        (first | ((with_reducible apply (stop_dst (dst := some 13))); (try simp only [Act.put, sA, sB, sC]); ((with_reducible apply (wpl_bslice (dst := some 13))); (exact run_emptyO _); intro zn wb _ _ _)) | ((with_reducible apply (stop_dst (dst := some 20))); (with_reducible apply (wpl_appendR (α := OM))); exact rfl; exact rfl; infer_instance; (exact HO.ofEmptyO _ zn _); (exact HR.takeR (l := l) inferInstance i); exact rfl; (exact hl1); (omega); (decide); (decide); intro A1 c1 wa1 _ ho1 g1 hcap1) | ((with_reducible apply (stop_dst (dst := some 28))); (with_reducible apply (wpl_appendR (α := OM))); exact rfl; exact rfl; infer_instance; infer_instance; (exact HR.cutR (l := l) (n := n) inferInstance hn hcap (i + 1) 5 rfl); exact rfl; (exact hl2); (omega); (decide); (decide); intro A2 c2 wa2 _ ho2 g2 hcap2) | ((with_reducible apply wpl_storerow); exact rfl; exact rfl; infer_instance; infer_instance; (first | with_reducible assumption | (with_reducible exact enc_sz _ rfl) | kernel_rfl); (first | with_reducible assumption | (with_reducible exact enc_sz _ rfl) | kernel_rfl); (first | (with_reducible exact u8s_one _) | with_reducible assumption | (with_reducible exact enc_one _) | kernel_rfl); intro ws _ _) | ((with_reducible apply wpl_storecell); exact rfl; exact rfl; infer_instance; exact rfl; (first | with_reducible assumption | omega | (focus (simp; done)) | (focus (simp; omega; done)) | decide); intro ws _ _) | ((with_reducible apply (wpl_storeint (t := 3))); exact rfl; exact rfl; infer_instance; (first | with_reducible assumption | omega); intro ws _ _) | ((with_reducible apply (wpl_storebyte (t := 5))); exact rfl; exact rfl; infer_instance; (first | with_reducible assumption | omega | (focus (simp; done)) | (focus (simp; omega; done)) | decide); (constructor <;> omega); intro ws _ _))
        refine wpList_nil ?_
        unfold onlyN
        refine hK_.out _ _ inferInstance (fun _ => ?_)
        clear hK_ K_
        try simp only [Act.put]
        refine wpAnyH_done (by kernel_rfl) ?_ _
    all_goals
      go_wp2_with (first | ((with_reducible apply wpl_loadrow); exact rfl; infer_instance; infer_instance; (first | with_reducible assumption | (with_reducible exact enc_sz _ rfl) | kernel_rfl)) | ((with_reducible apply wpl_loadcellN); exact rfl; infer_instance; exact rfl) | ((with_reducible apply wpl_storerow); exact rfl; exact rfl; infer_instance; infer_instance; (first | with_reducible assumption | (with_reducible exact enc_sz _ rfl) | kernel_rfl); (first | with_reducible assumption | (with_reducible exact enc_sz _ rfl) | kernel_rfl); (first | (with_reducible exact u8s_one _) | with_reducible assumption | (with_reducible exact enc_one _) | kernel_rfl); intro ws _ _) | ((with_reducible apply wpl_storecell); exact rfl; exact rfl; infer_instance; exact rfl; (first | with_reducible assumption | omega | (focus (simp; done)) | (focus (simp; omega; done)) | decide); intro ws _ _))
      go_end0
      have hC : Chg (only z) w ws := (stepC (w0 := w)).chg
      have hB2 : HB ws z 38 ((#[.slice LA n lc, .int .i64 s.N].setIfInBounds 0 (.slice A2 (0 + i + (n - (i + 1))) c2)).setIfInBounds 1 (.int .i64 ((s.N : Int) + 1))) := inferInstance
      have hO2 : HO ws 90 5 A2 (0 + i + (n - (i + 1))) c2 (cellsOf ([] ++ l.take i ++ l.drop (i + 1))) := inferInstance
      have hN2 : NewA w A2 := NewA.monoS (w0 := w) inferInstance
      refine ⟨rfl, ?_⟩
      rw [drop_some hOK]
      exact XS.cutDone (s' := (s.del id).err) h hn hil hr hx hC hB2 hO2 hN2 hR0.err
set_option maxRecDepth 100000 in
set_option maxHeartbeats 1600000 in
theorem xdropFalse_calls (id : Int) {w : World} {z : Nat} {X : Nat → Prop} {s : St} (h : XS w z X s) (hm : s.m ≤ 1000000) :
    Calls Try.prog 33 #[.pointer (some ⟨z, 0, none⟩), .int .i64 id, .bool false] w fun e w' => e = .returned (.tuple #[]) ∧ ∃ X', XS w' z X' (s.del id) ∧ Chg (only z) w w' ∧ ∀ x, X' x → X x ∨ w.heap.size ≤ x := by
  obtain ⟨l, LA, lc, hb, ho, hi, hr, hx, hq⟩ := h.mem
  obtain ⟨n, hn⟩ : ∃ n, l.length = n := ⟨_, rfl⟩
  rw [hn] at hb ho
  have hB : HB w z 38 #[.slice LA n lc, .int .i64 s.N] := ⟨hb⟩
  have hO : HO w 90 5 LA n lc (cellsOf l) := ⟨ho⟩
  have hn2 : n ≤ 1000000 := by rw [← hn, hq.m]; exact hm
  have hcap : n ≤ lc := own_cap ho
  have oz : OffA (only z) LA := ⟨fun ad e hk => ownO_no_blk ho hb (by decide) ad e hk⟩
  go_enter Try.func33, Try.ntmps33
  go_wp2_with fail
  refine (at_calls (l := l) id hn (by omega)).mono ?_
  rintro e w1 ⟨r, rfl, hs1, hat⟩
  have hc1 : Chg nowhere w w1 := hs1.chg
  rcases hat with ⟨rfl, hno⟩ | ⟨i, rfl, hil, hid⟩
  · go_wp2_with fail
    refine bodyPost_ret (results_none rfl _ _ _) rfl ?_
    have hG := hq.no id hno
    refine ⟨rfl, X, ?_, hc1.mono (fun _ _ hk => hk.elim), fun _ hx => .inl hx⟩
    rw [del_none hG]
    exact h.calm hc1 (fun _ _ hk => hk)
  · have hOK := hq.at_ i hil
    rw [hid] at hOK
    have hR0 := hq.cut hil
    rw [hid] at hR0
    have hi0 : ¬ (i : Int) < 0 := by omega
    have F1 := Lib.hid (show IntKind.i64.wrap ((i : Int) + 1) = ((i + 1 : Nat) : Int) by rw [IntKind.wrap_i64]; omega)
    have hl1 : (l.take i).length = i := by rw [List.length_take]; omega
    have hl2 : (l.drop (i + 1)).length = n - (i + 1) := by rw [List.length_drop, hn]
    go_wp2_with fail
    refine wp_region_N ((only z)) (by kernel_rfl) (fun wd _ _ => ?_)
    refine' takeH (i := 0) (v := _) rfl (by kernel_rfl) (by kernel_rfl) (by kernel_rfl) (fun _ _ _ h => h) (yields_of (by rfl) (fun w' _ => ?_)) inferInstance ?_
    rotate_left
    · (go_simp; try with_reducible rfl)
    try simp only [Act.put, sA]; try simp only [sB, sC]
    refine' takeH (i := 2) (v := _) rfl (by kernel_rfl) (by kernel_rfl) (by kernel_rfl) (fun _ _ _ h => h) (yields_of (by rfl) (fun w' _ => ?_)) inferInstance ?_
    rotate_left
    · (go_simp; try with_reducible rfl)
    try simp only [Act.put, sA]; try simp only [sB, sC]
    refine' takeH (i := 3) (v := _) rfl (by kernel_rfl) (by kernel_rfl) (by kernel_rfl) (fun _ _ _ h => h) (yields_of (by rfl) (fun w' _ => ?_)) inferInstance ?_
    rotate_left
    · (go_simp; try with_reducible rfl)
    try simp only [Act.put, sA]; try simp only [sB, sC]
    refine' takeH (i := 4) (v := _) rfl (by kernel_rfl) (by kernel_rfl) (by kernel_rfl) (fun _ _ _ h => h) (yields_of (by rfl) (fun w' _ => ?_)) inferInstance ?_
    rotate_left
    · (first | ((with_reducible apply (ev_fieldE (t := 90))); (exact Try.underlying90); exact rfl; (kernel_rfl); exact rfl; infer_instance; (exact cells_pos (by decide) (by omega))) | (go_simp; try with_reducible rfl))
    try simp only [Act.put, sA]; try simp only [sB, sC]
    refine' takeH (i := 6) (v := _) rfl (by kernel_rfl) (by kernel_rfl) (by kernel_rfl) (fun _ _ _ h => h) (yields_of (by rfl) (fun w' _ => ?_)) inferInstance ?_
    rotate_left
    · (go_simp; try with_reducible rfl)
    try simp only [Act.put, sA]; try simp only [sB, sC]
    refine' takeH (i := 9) (v := _) rfl (by kernel_rfl) (by kernel_rfl) (by kernel_rfl) (fun _ _ _ h => h) (yields_of (by rfl) (fun w' _ => ?_)) inferInstance ?_
    rotate_left
    · (go_simp; try with_reducible rfl)
    try simp only [Act.put, sA]; try simp only [sB, sC]
    refine' takeH (i := 10) (v := _) rfl (by kernel_rfl) (by kernel_rfl) (by kernel_rfl) (fun _ _ _ h => h) (yields_of (by rfl) (fun w' _ => ?_)) inferInstance ?_
    rotate_left
    · (go_simp; try with_reducible rfl)
    try simp only [Act.put, sA]; try simp only [sB, sC]
    refine' takeH (i := 11) (v := _) rfl (by kernel_rfl) (by kernel_rfl) (by kernel_rfl) (fun _ _ _ h => h) (yields_of (by rfl) (fun w' _ => ?_)) inferInstance ?_
    rotate_left
    · (first | ((with_reducible apply (ev_fieldE (t := 90))); (exact Try.underlying90); exact rfl; (kernel_rfl); exact rfl; infer_instance; (exact cells_pos (by decide) (by omega))) | (go_simp; try with_reducible rfl))
    try simp only [Act.put, sA]; try simp only [sB, sC]
    refine' takeH (i := 13) (v := _) rfl (by kernel_rfl) (by kernel_rfl) (by kernel_rfl) (fun _ _ _ h => h) (yields_of (by rfl) (fun w' _ => ?_)) inferInstance ?_
    rotate_left
    · (go_simp; try with_reducible rfl)
    try simp only [Act.put, sA]; try simp only [sB, sC]
    refine' takeH (i := 14) (v := _) rfl (by kernel_rfl) (by kernel_rfl) (by kernel_rfl) (fun _ _ _ h => h) (yields_of (by rfl) (fun w' _ => ?_)) inferInstance ?_
    rotate_left
    · (go_simp; try with_reducible rfl)
    try simp only [Act.put, sA]; try simp only [sB, sC]
    try simp only [F1.out]
    refine wpAnyH_ready (rs := [1, 5, 12]) (by kernel_rfl) (by simp) (AllReadyH.cons rfl (fun K_ hK_ => ?br7_1) (AllReadyH.cons rfl (fun K_ hK_ => ?br7_5) (AllReadyH.cons rfl (fun K_ hK_ => ?br7_12) AllReadyH.nil)))
    case' br7_1 =>
      rw [if_pos (by kernel_rfl)]
      refine wpr_of_list ?_
      (first | ((with_reducible apply (stop_dst (dst := some 13))); (try simp only [Act.put, sA, sB, sC]); ((with_reducible apply (wpl_bslice (dst := some 13))); (exact run_emptyO _); intro zn wb _ _ _)) | ((with_reducible apply (stop_dst (dst := some 20))); (with_reducible apply (wpl_appendR (α := OM))); exact rfl; exact rfl; infer_instance; (exact HO.ofEmptyO _ zn _); (exact HR.takeR (l := l) inferInstance i); exact rfl; (exact hl1); (omega); (decide); (decide); intro A1 c1 wa1 _ ho1 g1 hcap1) | ((with_reducible apply (stop_dst (dst := some 28))); (with_reducible apply (wpl_appendR (α := OM))); exact rfl; exact rfl; infer_instance; infer_instance; (exact HR.cutR (l := l) (n := n) inferInstance hn hcap (i + 1) 5 rfl); exact rfl; (exact hl2); (omega); (decide); (decide); intro A2 c2 wa2 _ ho2 g2 hcap2))
      refine wpList_nil ?_
      unfold onlyN
      refine hK_.out _ _ inferInstance (fun _ => ?_)
      clear hK_ K_
      try simp only [Act.put, sA]; try simp only [sB, sC]
      refine wpAnyH_ready (rs := [5, 12]) (by kernel_rfl) (by simp) (AllReadyH.cons rfl (fun K_ hK_ => ?br8_5) (AllReadyH.cons rfl (fun K_ hK_ => ?br8_12) AllReadyH.nil))
      case' br8_5 =>
        rw [if_pos (by kernel_rfl)]
        refine wpr_of_list ?_
        (first | ((with_reducible apply (stop_dst (dst := some 13))); (try simp only [Act.put, sA, sB, sC]); ((with_reducible apply (wpl_bslice (dst := some 13))); (exact run_emptyO _); intro zn wb _ _ _)) | ((with_reducible apply (stop_dst (dst := some 20))); (with_reducible apply (wpl_appendR (α := OM))); exact rfl; exact rfl; infer_instance; (exact HO.ofEmptyO _ zn _); (exact HR.takeR (l := l) inferInstance i); exact rfl; (exact hl1); (omega); (decide); (decide); intro A1 c1 wa1 _ ho1 g1 hcap1) | ((with_reducible apply (stop_dst (dst := some 28))); (with_reducible apply (wpl_appendR (α := OM))); exact rfl; exact rfl; infer_instance; infer_instance; (exact HR.cutR (l := l) (n := n) inferInstance hn hcap (i + 1) 5 rfl); exact rfl; (exact hl2); (omega); (decide); (decide); intro A2 c2 wa2 _ ho2 g2 hcap2) | ((with_reducible apply wpl_loadrow); exact rfl; infer_instance; infer_instance; (first | with_reducible assumption | (with_reducible exact enc_sz _ rfl) | kernel_rfl)) | ((with_reducible apply wpl_loadcellN); exact rfl; infer_instance; exact rfl) | ((with_reducible apply (wpl_loadE (α := OM) (t := 90))); infer_instance; exact rfl; infer_instance; exact rfl; (decide); (first | with_reducible assumption | omega | (focus (simp; done)) | (focus (simp; omega; done)) | decide)) | ((with_reducible apply (wpl_loadF (α := OM))); infer_instance; exact rfl; infer_instance; exact rfl; (first | with_reducible assumption | omega | (focus (simp; done)) | (focus (simp; omega; done)) | decide); exact rfl) | ((with_reducible apply (wpl_loadint (t := 3))); exact rfl; infer_instance; infer_instance; (first | with_reducible assumption | omega)) | ((with_reducible apply (wpl_loadbyte (t := 5))); exact rfl; infer_instance; infer_instance; (first | with_reducible assumption | omega)))
        refine wpList_nil ?_
        unfold onlyN
        refine hK_.out _ _ inferInstance (fun _ => ?_)
        clear hK_ K_
        try simp only [Act.put, sA]; try simp only [sB, sC]
        refine' takeH (i := 7) (v := _) rfl (by kernel_rfl) (by kernel_rfl) (by kernel_rfl) (fun _ _ _ h => h) (yields_of (by rfl) (fun w' _ => ?_)) inferInstance ?_
        rotate_left
        · (first | ((with_reducible apply ev_sl_lh); exact rfl; exact rfl; exact rfl; infer_instance; (first | with_reducible assumption | omega); (first | with_reducible assumption | omega)) | ((with_reducible apply ev_sl_h); exact rfl; exact rfl; infer_instance; (first | with_reducible assumption | omega)) | ((with_reducible apply ev_sl_l); exact rfl; exact rfl; infer_instance; (first | with_reducible assumption | omega)) | (go_simp; try with_reducible rfl))
        try simp only [Act.put, sA]; try simp only [sB, sC]
        refine wpAnyH_ready (rs := [8, 12]) (by kernel_rfl) (by simp) (AllReadyH.cons rfl (fun K_ hK_ => ?br9_8) (AllReadyH.cons rfl (fun K_ hK_ => ?br9_12) AllReadyH.nil))
        case' br9_8 =>
          rw [if_pos (by kernel_rfl)]
          refine wpr_of_list ?_
          (first | ((with_reducible apply (stop_dst (dst := some 13))); (try simp only [Act.put, sA, sB, sC]); ((with_reducible apply (wpl_bslice (dst := some 13))); (exact run_emptyO _); intro zn wb _ _ _)) | ((with_reducible apply (stop_dst (dst := some 20))); (with_reducible apply (wpl_appendR (α := OM))); exact rfl; exact rfl; infer_instance; (exact HO.ofEmptyO _ zn _); (exact HR.takeR (l := l) inferInstance i); exact rfl; (exact hl1); (omega); (decide); (decide); intro A1 c1 wa1 _ ho1 g1 hcap1) | ((with_reducible apply (stop_dst (dst := some 28))); (with_reducible apply (wpl_appendR (α := OM))); exact rfl; exact rfl; infer_instance; infer_instance; (exact HR.cutR (l := l) (n := n) inferInstance hn hcap (i + 1) 5 rfl); exact rfl; (exact hl2); (omega); (decide); (decide); intro A2 c2 wa2 _ ho2 g2 hcap2) | ((with_reducible apply wpl_appendB); exact rfl; exact rfl; infer_instance; (first | exact inferInstance | exact ⟨Own.nil _ _ _⟩); infer_instance; (first | with_reducible assumption | (with_reducible exact H32.len _) | (focus (simp; done)) | omega); (first | with_reducible assumption | omega); intro A' c' wa _ _ _ hcap))
          refine wpList_nil ?_
          unfold onlyN
          refine hK_.out _ _ inferInstance (fun _ => ?_)
          clear hK_ K_
          try simp only [Act.put, sA]; try simp only [sB, sC]
          refine goH (i := 12) (by kernel_rfl) rfl (fun K_ hK_ => ?_)
          rw [if_pos (by kernel_rfl)]
          refine wpr_of_list ?_
          (first | ((with_reducible apply (stop_dst (dst := some 13))); (try simp only [Act.put, sA, sB, sC]); ((with_reducible apply (wpl_bslice (dst := some 13))); (exact run_emptyO _); intro zn wb _ _ _)) | ((with_reducible apply (stop_dst (dst := some 20))); (with_reducible apply (wpl_appendR (α := OM))); exact rfl; exact rfl; infer_instance; (exact HO.ofEmptyO _ zn _); (exact HR.takeR (l := l) inferInstance i); exact rfl; (exact hl1); (omega); (decide); (decide); intro A1 c1 wa1 _ ho1 g1 hcap1) | ((with_reducible apply (stop_dst (dst := some 28))); (with_reducible apply (wpl_appendR (α := OM))); exact rfl; exact rfl; infer_instance; infer_instance; (exact HR.cutR (l := l) (n := n) inferInstance hn hcap (i + 1) 5 rfl); exact rfl; (exact hl2); (omega); (decide); (decide); intro A2 c2 wa2 _ ho2 g2 hcap2) | ((with_reducible apply wpl_loadrow); exact rfl; infer_instance; infer_instance; (first | with_reducible assumption | (with_reducible exact enc_sz _ rfl) | kernel_rfl)) | ((with_reducible apply wpl_loadcellN); exact rfl; infer_instance; exact rfl) | ((with_reducible apply (wpl_loadE (α := OM) (t := 90))); infer_instance; exact rfl; infer_instance; exact rfl; (decide); (first | with_reducible assumption | omega | (focus (simp; done)) | (focus (simp; omega; done)) | decide)) | ((with_reducible apply (wpl_loadF (α := OM))); infer_instance; exact rfl; infer_instance; exact rfl; (first | with_reducible assumption | omega | (focus (simp; done)) | (focus (simp; omega; done)) | decide); exact rfl) | ((with_reducible apply (wpl_loadint (t := 3))); exact rfl; infer_instance; infer_instance; (first | with_reducible assumption | omega)) | ((with_reducible apply (wpl_loadbyte (t := 5))); exact rfl; infer_instance; infer_instance; (first | with_reducible assumption | omega)))
          refine wpList_nil ?_
          unfold onlyN
          refine hK_.out _ _ inferInstance (fun _ => ?_)
          clear hK_ K_
          try simp only [Act.put, sA]; try simp only [sB, sC]
          refine' takeH (i := 15) (v := _) rfl (by kernel_rfl) (by kernel_rfl) (by kernel_rfl) (fun _ _ _ h => h) (yields_of (by rfl) (fun w' _ => ?_)) inferInstance ?_
          rotate_left
          · (first | ((with_reducible apply ev_sl_lh); exact rfl; exact rfl; exact rfl; infer_instance; (first | with_reducible assumption | omega); (first | with_reducible assumption | omega)) | ((with_reducible apply ev_sl_h); exact rfl; exact rfl; infer_instance; (first | with_reducible assumption | omega)) | ((with_reducible apply ev_sl_l); exact rfl; exact rfl; infer_instance; (first | with_reducible assumption | omega)) | (go_simp; try with_reducible rfl))
          try simp only [Act.put, sA]; try simp only [sB, sC]
          refine goH (i := 16) (by kernel_rfl) rfl (fun K_ hK_ => ?_)
          rw [if_pos (by kernel_rfl)]
          refine wpr_of_list ?_
          (first | ((with_reducible apply (stop_dst (dst := some 13))); (try simp only [Act.put, sA, sB, sC]); ((with_reducible apply (wpl_bslice (dst := some 13))); (exact run_emptyO _); intro zn wb _ _ _)) | ((with_reducible apply (stop_dst (dst := some 20))); (with_reducible apply (wpl_appendR (α := OM))); exact rfl; exact rfl; infer_instance; (exact HO.ofEmptyO _ zn _); (exact HR.takeR (l := l) inferInstance i); exact rfl; (exact hl1); (omega); (decide); (decide); intro A1 c1 wa1 _ ho1 g1 hcap1) | ((with_reducible apply (stop_dst (dst := some 28))); (with_reducible apply (wpl_appendR (α := OM))); exact rfl; exact rfl; infer_instance; infer_instance; (exact HR.cutR (l := l) (n := n) inferInstance hn hcap (i + 1) 5 rfl); exact rfl; (exact hl2); (omega); (decide); (decide); intro A2 c2 wa2 _ ho2 g2 hcap2) | ((with_reducible apply wpl_appendB); exact rfl; exact rfl; infer_instance; (first | exact inferInstance | exact ⟨Own.nil _ _ _⟩); infer_instance; (first | with_reducible assumption | (with_reducible exact H32.len _) | (focus (simp; done)) | omega); (first | with_reducible assumption | omega); intro A' c' wa _ _ _ hcap))
          refine wpList_nil ?_
          unfold onlyN
          refine hK_.out _ _ inferInstance (fun _ => ?_)
          clear hK_ K_
          try simp only [Act.put, sA]; try simp only [sB, sC]
          refine' takeH (i := 17) (v := _) rfl (by kernel_rfl) (by kernel_rfl) (by kernel_rfl) (fun _ _ _ h => h) (yields_of (by rfl) (fun w' _ => ?_)) inferInstance ?_
          rotate_left
          · (go_simp; try with_reducible rfl)
          try simp only [Act.put, sA]; try simp only [sB, sC]
          refine' takeH (i := 18) (v := _) rfl (by kernel_rfl) (by kernel_rfl) (by kernel_rfl) (fun _ _ _ h => h) (yields_of (by rfl) (fun w' _ => ?_)) inferInstance ?_
          rotate_left
          · (first | ((with_reducible apply (ev_fieldE (t := 90))); (exact Try.underlying90); exact rfl; (kernel_rfl); exact rfl; infer_instance; (exact cells_pos (by decide) (by omega))) | (go_simp; try with_reducible rfl))
          try simp only [Act.put, sA]; try simp only [sB, sC]
          refine goH (i := 19) (by kernel_rfl) rfl (fun K_ hK_ => ?_)
          rw [if_pos (by kernel_rfl)]
          refine wpr_of_list ?_
          (first | ((with_reducible apply (stop_dst (dst := some 13))); (try simp only [Act.put, sA, sB, sC]); ((with_reducible apply (wpl_bslice (dst := some 13))); (exact run_emptyO _); intro zn wb _ _ _)) | ((with_reducible apply (stop_dst (dst := some 20))); (with_reducible apply (wpl_appendR (α := OM))); exact rfl; exact rfl; infer_instance; (exact HO.ofEmptyO _ zn _); (exact HR.takeR (l := l) inferInstance i); exact rfl; (exact hl1); (omega); (decide); (decide); intro A1 c1 wa1 _ ho1 g1 hcap1) | ((with_reducible apply (stop_dst (dst := some 28))); (with_reducible apply (wpl_appendR (α := OM))); exact rfl; exact rfl; infer_instance; infer_instance; (exact HR.cutR (l := l) (n := n) inferInstance hn hcap (i + 1) 5 rfl); exact rfl; (exact hl2); (omega); (decide); (decide); intro A2 c2 wa2 _ ho2 g2 hcap2) | ((with_reducible apply wpl_storerow); exact rfl; exact rfl; infer_instance; infer_instance; (first | with_reducible assumption | (with_reducible exact enc_sz _ rfl) | kernel_rfl); (first | with_reducible assumption | (with_reducible exact enc_sz _ rfl) | kernel_rfl); (first | (with_reducible exact u8s_one _) | with_reducible assumption | (with_reducible exact enc_one _) | kernel_rfl); intro ws _ _) | ((with_reducible apply wpl_storecell); exact rfl; exact rfl; infer_instance; exact rfl; (first | with_reducible assumption | omega | (focus (simp; done)) | (focus (simp; omega; done)) | decide); intro ws _ _) | ((with_reducible apply (wpl_storeint (t := 3))); exact rfl; exact rfl; infer_instance; (first | with_reducible assumption | omega); intro ws _ _) | ((with_reducible apply (wpl_storebyte (t := 5))); exact rfl; exact rfl; infer_instance; (first | with_reducible assumption | omega | (focus (simp; done)) | (focus (simp; omega; done)) | decide); (constructor <;> omega); intro ws _ _))
          refine wpList_nil ?_
          unfold onlyN
          refine hK_.out _ _ inferInstance (fun _ => ?_)
          clear hK_ K_
          try simp only [Act.put]
          refine wpAnyH_done (by kernel_rfl) ?_ _
        case' br9_12 =>
          rw [if_pos (by kernel_rfl)]
          refine wpr_of_list ?_
          (first | ((with_reducible apply (stop_dst (dst := some 13))); (try simp only [Act.put, sA, sB, sC]); ((with_reducible apply (wpl_bslice (dst := some 13))); (exact run_emptyO _); intro zn wb _ _ _)) | ((with_reducible apply (stop_dst (dst := some 20))); (with_reducible apply (wpl_appendR (α := OM))); exact rfl; exact rfl; infer_instance; (exact HO.ofEmptyO _ zn _); (exact HR.takeR (l := l) inferInstance i); exact rfl; (exact hl1); (omega); (decide); (decide); intro A1 c1 wa1 _ ho1 g1 hcap1) | ((with_reducible apply (stop_dst (dst := some 28))); (with_reducible apply (wpl_appendR (α := OM))); exact rfl; exact rfl; infer_instance; infer_instance; (exact HR.cutR (l := l) (n := n) inferInstance hn hcap (i + 1) 5 rfl); exact rfl; (exact hl2); (omega); (decide); (decide); intro A2 c2 wa2 _ ho2 g2 hcap2) | ((with_reducible apply wpl_loadrow); exact rfl; infer_instance; infer_instance; (first | with_reducible assumption | (with_reducible exact enc_sz _ rfl) | kernel_rfl)) | ((with_reducible apply wpl_loadcellN); exact rfl; infer_instance; exact rfl) | ((with_reducible apply (wpl_loadE (α := OM) (t := 90))); infer_instance; exact rfl; infer_instance; exact rfl; (decide); (first | with_reducible assumption | omega | (focus (simp; done)) | (focus (simp; omega; done)) | decide)) | ((with_reducible apply (wpl_loadF (α := OM))); infer_instance; exact rfl; infer_instance; exact rfl; (first | with_reducible assumption | omega | (focus (simp; done)) | (focus (simp; omega; done)) | decide); exact rfl) | ((with_reducible apply (wpl_loadint (t := 3))); exact rfl; infer_instance; infer_instance; (first | with_reducible assumption | omega)) | ((with_reducible apply (wpl_loadbyte (t := 5))); exact rfl; infer_instance; infer_instance; (first | with_reducible assumption | omega)))
          refine wpList_nil ?_
          unfold onlyN
          refine hK_.out _ _ inferInstance (fun _ => ?_)
          clear hK_ K_
          try simp only [Act.put, sA]; try simp only [sB, sC]
          refine' takeH (i := 15) (v := _) rfl (by kernel_rfl) (by kernel_rfl) (by kernel_rfl) (fun _ _ _ h => h) (yields_of (by rfl) (fun w' _ => ?_)) inferInstance ?_
          rotate_left
          · (first | ((with_reducible apply ev_sl_lh); exact rfl; exact rfl; exact rfl; infer_instance; (first | with_reducible assumption | omega); (first | with_reducible assumption | omega)) | ((with_reducible apply ev_sl_h); exact rfl; exact rfl; infer_instance; (first | with_reducible assumption | omega)) | ((with_reducible apply ev_sl_l); exact rfl; exact rfl; infer_instance; (first | with_reducible assumption | omega)) | (go_simp; try with_reducible rfl))
          try simp only [Act.put, sA]; try simp only [sB, sC]
          refine goH (i := 8) (by kernel_rfl) rfl (fun K_ hK_ => ?_)
          rw [if_pos (by kernel_rfl)]
          refine wpr_of_list ?_
          (first | ((with_reducible apply (stop_dst (dst := some 13))); (try simp only [Act.put, sA, sB, sC]); ((with_reducible apply (wpl_bslice (dst := some 13))); (exact run_emptyO _); intro zn wb _ _ _)) | ((with_reducible apply (stop_dst (dst := some 20))); (with_reducible apply (wpl_appendR (α := OM))); exact rfl; exact rfl; infer_instance; (exact HO.ofEmptyO _ zn _); (exact HR.takeR (l := l) inferInstance i); exact rfl; (exact hl1); (omega); (decide); (decide); intro A1 c1 wa1 _ ho1 g1 hcap1) | ((with_reducible apply (stop_dst (dst := some 28))); (with_reducible apply (wpl_appendR (α := OM))); exact rfl; exact rfl; infer_instance; infer_instance; (exact HR.cutR (l := l) (n := n) inferInstance hn hcap (i + 1) 5 rfl); exact rfl; (exact hl2); (omega); (decide); (decide); intro A2 c2 wa2 _ ho2 g2 hcap2) | ((with_reducible apply wpl_appendB); exact rfl; exact rfl; infer_instance; (first | exact inferInstance | exact ⟨Own.nil _ _ _⟩); infer_instance; (first | with_reducible assumption | (with_reducible exact H32.len _) | (focus (simp; done)) | omega); (first | with_reducible assumption | omega); intro A' c' wa _ _ _ hcap))
          refine wpList_nil ?_
          unfold onlyN
          refine hK_.out _ _ inferInstance (fun _ => ?_)
          clear hK_ K_
          try simp only [Act.put, sA]; try simp only [sB, sC]
          refine goH (i := 16) (by kernel_rfl) rfl (fun K_ hK_ => ?_)
          rw [if_pos (by kernel_rfl)]
          refine wpr_of_list ?_
          (first | ((with_reducible apply (stop_dst (dst := some 13))); (try simp only [Act.put, sA, sB, sC]); ((with_reducible apply (wpl_bslice (dst := some 13))); (exact run_emptyO _); intro zn wb _ _ _)) | ((with_reducible apply (stop_dst (dst := some 20))); (with_reducible apply (wpl_appendR (α := OM))); exact rfl; exact rfl; infer_instance; (exact HO.ofEmptyO _ zn _); (exact HR.takeR (l := l) inferInstance i); exact rfl; (exact hl1); (omega); (decide); (decide); intro A1 c1 wa1 _ ho1 g1 hcap1) | ((with_reducible apply (stop_dst (dst := some 28))); (with_reducible apply (wpl_appendR (α := OM))); exact rfl; exact rfl; infer_instance; infer_instance; (exact HR.cutR (l := l) (n := n) inferInstance hn hcap (i + 1) 5 rfl); exact rfl; (exact hl2); (omega); (decide); (decide); intro A2 c2 wa2 _ ho2 g2 hcap2) | ((with_reducible apply wpl_appendB); exact rfl; exact rfl; infer_instance; (first | exact inferInstance | exact ⟨Own.nil _ _ _⟩); infer_instance; (first | with_reducible assumption | (with_reducible exact H32.len _) | (focus (simp; done)) | omega); (first | with_reducible assumption | omega); intro A' c' wa _ _ _ hcap))
          refine wpList_nil ?_
          unfold onlyN
          refine hK_.out _ _ inferInstance (fun _ => ?_)
          clear hK_ K_
          try simp only [Act.put, sA]; try simp only [sB, sC]
          refine' takeH (i := 17) (v := _) rfl (by kernel_rfl) (by kernel_rfl) (by kernel_rfl) (fun _ _ _ h => h) (yields_of (by rfl) (fun w' _ => ?_)) inferInstance ?_
          rotate_left
          · (go_simp; try with_reducible rfl)
          try simp only [Act.put, sA]; try simp only [sB, sC]
          refine' takeH (i := 18) (v := _) rfl (by kernel_rfl) (by kernel_rfl) (by kernel_rfl) (fun _ _ _ h => h) (yields_of (by rfl) (fun w' _ => ?_)) inferInstance ?_
          rotate_left
          · (first | ((with_reducible apply (ev_fieldE (t := 90))); (exact Try.underlying90); exact rfl; (kernel_rfl); exact rfl; infer_instance; (exact cells_pos (by decide) (by omega))) | (go_simp; try with_reducible rfl))
          try simp only [Act.put, sA]; try simp only [sB, sC]
          refine goH (i := 19) (by kernel_rfl) rfl (fun K_ hK_ => ?_)
          rw [if_pos (by kernel_rfl)]
          refine wpr_of_list ?_
          (first | ((with_reducible apply (stop_dst (dst := some 13))); (try simp only [Act.put, sA, sB, sC]); ((with_reducible apply (wpl_bslice (dst := some 13))); (exact run_emptyO _); intro zn wb _ _ _)) | ((with_reducible apply (stop_dst (dst := some 20))); (with_reducible apply (wpl_appendR (α := OM))); exact rfl; exact rfl; infer_instance; (exact HO.ofEmptyO _ zn _); (exact HR.takeR (l := l) inferInstance i); exact rfl; (exact hl1); (omega); (decide); (decide); intro A1 c1 wa1 _ ho1 g1 hcap1) | ((with_reducible apply (stop_dst (dst := some 28))); (with_reducible apply (wpl_appendR (α := OM))); exact rfl; exact rfl; infer_instance; infer_instance; (exact HR.cutR (l := l) (n := n) inferInstance hn hcap (i + 1) 5 rfl); exact rfl; (exact hl2); (omega); (decide); (decide); intro A2 c2 wa2 _ ho2 g2 hcap2) | ((with_reducible apply wpl_storerow); exact rfl; exact rfl; infer_instance; infer_instance; (first | with_reducible assumption | (with_reducible exact enc_sz _ rfl) | kernel_rfl); (first | with_reducible assumption | (with_reducible exact enc_sz _ rfl) | kernel_rfl); (first | (with_reducible exact u8s_one _) | with_reducible assumption | (with_reducible exact enc_one _) | kernel_rfl); intro ws _ _) | ((with_reducible apply wpl_storecell); exact rfl; exact rfl; infer_instance; exact rfl; (first | with_reducible assumption | omega | (focus (simp; done)) | (focus (simp; omega; done)) | decide); intro ws _ _) | ((with_reducible apply (wpl_storeint (t := 3))); exact rfl; exact rfl; infer_instance; (first | with_reducible assumption | omega); intro ws _ _) | ((with_reducible apply (wpl_storebyte (t := 5))); exact rfl; exact rfl; infer_instance; (first | with_reducible assumption | omega | (focus (simp; done)) | (focus (simp; omega; done)) | decide); (constructor <;> omega); intro ws _ _))
          refine wpList_nil ?_
          unfold onlyN
          refine hK_.out _ _ inferInstance (fun _ => ?_)
          clear hK_ K_
          try simp only [Act.put]
          refine wpAnyH_done (by kernel_rfl) ?_ _
      case' br8_12 =>
        rw [if_pos (by kernel_rfl)]
        refine wpr_of_list ?_
        (first | ((with_reducible apply (stop_dst (dst := some 13))); (try simp only [Act.put, sA, sB, sC]); ((with_reducible apply (wpl_bslice (dst := some 13))); (exact run_emptyO _); intro zn wb _ _ _)) | ((with_reducible apply (stop_dst (dst := some 20))); (with_reducible apply (wpl_appendR (α := OM))); exact rfl; exact rfl; infer_instance; (exact HO.ofEmptyO _ zn _); (exact HR.takeR (l := l) inferInstance i); exact rfl; (exact hl1); (omega); (decide); (decide); intro A1 c1 wa1 _ ho1 g1 hcap1) | ((with_reducible apply (stop_dst (dst := some 28))); (with_reducible apply (wpl_appendR (α := OM))); exact rfl; exact rfl; infer_instance; infer_instance; (exact HR.cutR (l := l) (n := n) inferInstance hn hcap (i + 1) 5 rfl); exact rfl; (exact hl2); (omega); (decide); (decide); intro A2 c2 wa2 _ ho2 g2 hcap2) | ((with_reducible apply wpl_loadrow); exact rfl; infer_instance; infer_instance; (first | with_reducible assumption | (with_reducible exact enc_sz _ rfl) | kernel_rfl)) | ((with_reducible apply wpl_loadcellN); exact rfl; infer_instance; exact rfl) | ((with_reducible apply (wpl_loadE (α := OM) (t := 90))); infer_instance; exact rfl; infer_instance; exact rfl; (decide); (first | with_reducible assumption | omega | (focus (simp; done)) | (focus (simp; omega; done)) | decide)) | ((with_reducible apply (wpl_loadF (α := OM))); infer_instance; exact rfl; infer_instance; exact rfl; (first | with_reducible assumption | omega | (focus (simp; done)) | (focus (simp; omega; done)) | decide); exact rfl) | ((with_reducible apply (wpl_loadint (t := 3))); exact rfl; infer_instance; infer_instance; (first | with_reducible assumption | omega)) | ((with_reducible apply (wpl_loadbyte (t := 5))); exact rfl; infer_instance; infer_instance; (first | with_reducible assumption | omega)))
        refine wpList_nil ?_
        unfold onlyN
        refine hK_.out _ _ inferInstance (fun _ => ?_)
        clear hK_ K_
        try simp only [Act.put, sA]; try simp only [sB, sC]
        refine' takeH (i := 15) (v := _) rfl (by kernel_rfl) (by kernel_rfl) (by kernel_rfl) (fun _ _ _ h => h) (yields_of (by rfl) (fun w' _ => ?_)) inferInstance ?_
        rotate_left
        · (first | ((with_reducible apply ev_sl_lh); exact rfl; exact rfl; exact rfl; infer_instance; (first | with_reducible assumption | omega); (first | with_reducible assumption | omega)) | ((with_reducible apply ev_sl_h); exact rfl; exact rfl; infer_instance; (first | with_reducible assumption | omega)) | ((with_reducible apply ev_sl_l); exact rfl; exact rfl; infer_instance; (first | with_reducible assumption | omega)) | (go_simp; try with_reducible rfl))
        try simp only [Act.put, sA]; try simp only [sB, sC]
        refine goH (i := 5) (by kernel_rfl) rfl (fun K_ hK_ => ?_)
        rw [if_pos (by kernel_rfl)]
        refine wpr_of_list ?_
        (first | ((with_reducible apply (stop_dst (dst := some 13))); (try simp only [Act.put, sA, sB, sC]); ((with_reducible apply (wpl_bslice (dst := some 13))); (exact run_emptyO _); intro zn wb _ _ _)) | ((with_reducible apply (stop_dst (dst := some 20))); (with_reducible apply (wpl_appendR (α := OM))); exact rfl; exact rfl; infer_instance; (exact HO.ofEmptyO _ zn _); (exact HR.takeR (l := l) inferInstance i); exact rfl; (exact hl1); (omega); (decide); (decide); intro A1 c1 wa1 _ ho1 g1 hcap1) | ((with_reducible apply (stop_dst (dst := some 28))); (with_reducible apply (wpl_appendR (α := OM))); exact rfl; exact rfl; infer_instance; infer_instance; (exact HR.cutR (l := l) (n := n) inferInstance hn hcap (i + 1) 5 rfl); exact rfl; (exact hl2); (omega); (decide); (decide); intro A2 c2 wa2 _ ho2 g2 hcap2) | ((with_reducible apply wpl_loadrow); exact rfl; infer_instance; infer_instance; (first | with_reducible assumption | (with_reducible exact enc_sz _ rfl) | kernel_rfl)) | ((with_reducible apply wpl_loadcellN); exact rfl; infer_instance; exact rfl) | ((with_reducible apply (wpl_loadE (α := OM) (t := 90))); infer_instance; exact rfl; infer_instance; exact rfl; (decide); (first | with_reducible assumption | omega | (focus (simp; done)) | (focus (simp; omega; done)) | decide)) | ((with_reducible apply (wpl_loadF (α := OM))); infer_instance; exact rfl; infer_instance; exact rfl; (first | with_reducible assumption | omega | (focus (simp; done)) | (focus (simp; omega; done)) | decide); exact rfl) | ((with_reducible apply (wpl_loadint (t := 3))); exact rfl; infer_instance; infer_instance; (first | with_reducible assumption | omega)) | ((with_reducible apply (wpl_loadbyte (t := 5))); exact rfl; infer_instance; infer_instance; (first | with_reducible assumption | omega)))
        refine wpList_nil ?_
        unfold onlyN
        refine hK_.out _ _ inferInstance (fun _ => ?_)
        clear hK_ K_
        try simp only [Act.put, sA]; try simp only [sB, sC]
        refine' takeH (i := 7) (v := _) rfl (by kernel_rfl) (by kernel_rfl) (by kernel_rfl) (fun _ _ _ h => h) (yields_of (by rfl) (fun w' _ => ?_)) inferInstance ?_
        rotate_left
        · (first | ((with_reducible apply ev_sl_lh); exact rfl; exact rfl; exact rfl; infer_instance; (first | with_reducible assumption | omega); (first | with_reducible assumption | omega)) | ((with_reducible apply ev_sl_h); exact rfl; exact rfl; infer_instance; (first | with_reducible assumption | omega)) | ((with_reducible apply ev_sl_l); exact rfl; exact rfl; infer_instance; (first | with_reducible assumption | omega)) | (go_simp; try with_reducible rfl))
        try simp only [Act.put, sA]; try simp only [sB, sC]
        refine goH (i := 8) (by kernel_rfl) rfl (fun K_ hK_ => ?_)
        rw [if_pos (by kernel_rfl)]
        refine wpr_of_list ?_
        (first | ((with_reducible apply (stop_dst (dst := some 13))); (try simp only [Act.put, sA, sB, sC]); ((with_reducible apply (wpl_bslice (dst := some 13))); (exact run_emptyO _); intro zn wb _ _ _)) | ((with_reducible apply (stop_dst (dst := some 20))); (with_reducible apply (wpl_appendR (α := OM))); exact rfl; exact rfl; infer_instance; (exact HO.ofEmptyO _ zn _); (exact HR.takeR (l := l) inferInstance i); exact rfl; (exact hl1); (omega); (decide); (decide); intro A1 c1 wa1 _ ho1 g1 hcap1) | ((with_reducible apply (stop_dst (dst := some 28))); (with_reducible apply (wpl_appendR (α := OM))); exact rfl; exact rfl; infer_instance; infer_instance; (exact HR.cutR (l := l) (n := n) inferInstance hn hcap (i + 1) 5 rfl); exact rfl; (exact hl2); (omega); (decide); (decide); intro A2 c2 wa2 _ ho2 g2 hcap2) | ((with_reducible apply wpl_appendB); exact rfl; exact rfl; infer_instance; (first | exact inferInstance | exact ⟨Own.nil _ _ _⟩); infer_instance; (first | with_reducible assumption | (with_reducible exact H32.len _) | (focus (simp; done)) | omega); (first | with_reducible assumption | omega); intro A' c' wa _ _ _ hcap))
        refine wpList_nil ?_
        unfold onlyN
        refine hK_.out _ _ inferInstance (fun _ => ?_)
        clear hK_ K_
        try simp only [Act.put, sA]; try simp only [sB, sC]
        refine goH (i := 16) (by kernel_rfl) rfl (fun K_ hK_ => ?_)
        rw [if_pos (by kernel_rfl)]
        refine wpr_of_list ?_
        (first | ((with_reducible apply (stop_dst (dst := some 13))); (try simp only [Act.put, sA, sB, sC]); ((with_reducible apply (wpl_bslice (dst := some 13))); (exact run_emptyO _); intro zn wb _ _ _)) | ((with_reducible apply (stop_dst (dst := some 20))); (with_reducible apply (wpl_appendR (α := OM))); exact rfl; exact rfl; infer_instance; (exact HO.ofEmptyO _ zn _); (exact HR.takeR (l := l) inferInstance i); exact rfl; (exact hl1); (omega); (decide); (decide); intro A1 c1 wa1 _ ho1 g1 hcap1) | ((with_reducible apply (stop_dst (dst := some 28))); (with_reducible apply (wpl_appendR (α := OM))); exact rfl; exact rfl; infer_instance; infer_instance; (exact HR.cutR (l := l) (n := n) inferInstance hn hcap (i + 1) 5 rfl); exact rfl; (exact hl2); (omega); (decide); (decide); intro A2 c2 wa2 _ ho2 g2 hcap2) | ((with_reducible apply wpl_appendB); exact rfl; exact rfl; infer_instance; (first | exact inferInstance | exact ⟨Own.nil _ _ _⟩); infer_instance; (first | with_reducible assumption | (with_reducible exact H32.len _) | (focus (simp; done)) | omega); (first | with_reducible assumption | omega); intro A' c' wa _ _ _ hcap))
        refine wpList_nil ?_
        unfold onlyN
        refine hK_.out _ _ inferInstance (fun _ => ?_)
        clear hK_ K_
        try simp only [Act.put, sA]; try simp only [sB, sC]
        refine' takeH (i := 17) (v := _) rfl (by kernel_rfl) (by kernel_rfl) (by kernel_rfl) (fun _ _ _ h => h) (yields_of (by rfl) (fun w' _ => ?_)) inferInstance ?_
        rotate_left
        · (go_simp; try with_reducible rfl)
        try simp only [Act.put, sA]; try simp only [sB, sC]
        refine' takeH (i := 18) (v := _) rfl (by kernel_rfl) (by kernel_rfl) (by kernel_rfl) (fun _ _ _ h => h) (yields_of (by rfl) (fun w' _ => ?_)) inferInstance ?_
        rotate_left
        · (first | ((with_reducible apply (ev_fieldE (t := 90))); (exact Try.underlying90); exact rfl; (kernel_rfl); exact rfl; infer_instance; (exact cells_pos (by decide) (by omega))) | (go_simp; try with_reducible rfl))
        try simp only [Act.put, sA]; try simp only [sB, sC]
        refine goH (i := 19) (by kernel_rfl) rfl (fun K_ hK_ => ?_)
        rw [if_pos (by kernel_rfl)]
        refine wpr_of_list ?_
        (first | ((with_reducible apply (stop_dst (dst := some 13))); (try simp only [Act.put, sA, sB, sC]); ((with_reducible apply (wpl_bslice (dst := some 13))); (exact run_emptyO _); intro zn wb _ _ _)) | ((with_reducible apply (stop_dst (dst := some 20))); (with_reducible apply (wpl_appendR (α := OM))); exact rfl; exact rfl; infer_instance; (exact HO.ofEmptyO _ zn _); (exact HR.takeR (l := l) inferInstance i); exact rfl; (exact hl1); (omega); (decide); (decide); intro A1 c1 wa1 _ ho1 g1 hcap1) | ((with_reducible apply (stop_dst (dst := some 28))); (with_reducible apply (wpl_appendR (α := OM))); exact rfl; exact rfl; infer_instance; infer_instance; (exact HR.cutR (l := l) (n := n) inferInstance hn hcap (i + 1) 5 rfl); exact rfl; (exact hl2); (omega); (decide); (decide); intro A2 c2 wa2 _ ho2 g2 hcap2) | ((with_reducible apply wpl_storerow); exact rfl; exact rfl; infer_instance; infer_instance; (first | with_reducible assumption | (with_reducible exact enc_sz _ rfl) | kernel_rfl); (first | with_reducible assumption | (with_reducible exact enc_sz _ rfl) | kernel_rfl); (first | (with_reducible exact u8s_one _) | with_reducible assumption | (with_reducible exact enc_one _) | kernel_rfl); intro ws _ _) | ((with_reducible apply wpl_storecell); exact rfl; exact rfl; infer_instance; exact rfl; (first | with_reducible assumption | omega | (focus (simp; done)) | (focus (simp; omega; done)) | decide); intro ws _ _) | ((with_reducible apply (wpl_storeint (t := 3))); exact rfl; exact rfl; infer_instance; (first | with_reducible assumption | omega); intro ws _ _) | ((with_reducible apply (wpl_storebyte (t := 5))); exact rfl; exact rfl; infer_instance; (first | with_reducible assumption | omega | (focus (simp; done)) | (focus (simp; omega; done)) | decide); (constructor <;> omega); intro ws _ _))
        refine wpList_nil ?_
        unfold onlyN
        refine hK_.out _ _ inferInstance (fun _ => ?_)
        clear hK_ K_
        try simp only [Act.put]
        refine wpAnyH_done (by kernel_rfl) ?_ _
    case' br7_5 =>
      rw [if_pos (by kernel_rfl)]
      refine wpr_of_list ?_
      (first | ((with_reducible apply (stop_dst (dst := some 13))); (try simp only [Act.put, sA, sB, sC]); ((with_reducible apply (wpl_bslice (dst := some 13))); (exact run_emptyO _); intro zn wb _ _ _)) | ((with_reducible apply (stop_dst (dst := some 20))); (with_reducible apply (wpl_appendR (α := OM))); exact rfl; exact rfl; infer_instance; (exact HO.ofEmptyO _ zn _); (exact HR.takeR (l := l) inferInstance i); exact rfl; (exact hl1); (omega); (decide); (decide); intro A1 c1 wa1 _ ho1 g1 hcap1) | ((with_reducible apply (stop_dst (dst := some 28))); (with_reducible apply (wpl_appendR (α := OM))); exact rfl; exact rfl; infer_instance; infer_instance; (exact HR.cutR (l := l) (n := n) inferInstance hn hcap (i + 1) 5 rfl); exact rfl; (exact hl2); (omega); (decide); (decide); intro A2 c2 wa2 _ ho2 g2 hcap2) | ((with_reducible apply wpl_loadrow); exact rfl; infer_instance; infer_instance; (first | with_reducible assumption | (with_reducible exact enc_sz _ rfl) | kernel_rfl)) | ((with_reducible apply wpl_loadcellN); exact rfl; infer_instance; exact rfl) | ((with_reducible apply (wpl_loadE (α := OM) (t := 90))); infer_instance; exact rfl; infer_instance; exact rfl; (decide); (first | with_reducible assumption | omega | (focus (simp; done)) | (focus (simp; omega; done)) | decide)) | ((with_reducible apply (wpl_loadF (α := OM))); infer_instance; exact rfl; infer_instance; exact rfl; (first | with_reducible assumption | omega | (focus (simp; done)) | (focus (simp; omega; done)) | decide); exact rfl) | ((with_reducible apply (wpl_loadint (t := 3))); exact rfl; infer_instance; infer_instance; (first | with_reducible assumption | omega)) | ((with_reducible apply (wpl_loadbyte (t := 5))); exact rfl; infer_instance; infer_instance; (first | with_reducible assumption | omega)))
      refine wpList_nil ?_
      unfold onlyN
      refine hK_.out _ _ inferInstance (fun _ => ?_)
      clear hK_ K_
      try simp only [Act.put, sA]; try simp only [sB, sC]
      refine' takeH (i := 7) (v := _) rfl (by kernel_rfl) (by kernel_rfl) (by kernel_rfl) (fun _ _ _ h => h) (yields_of (by rfl) (fun w' _ => ?_)) inferInstance ?_
      rotate_left
      · (first | ((with_reducible apply ev_sl_lh); exact rfl; exact rfl; exact rfl; infer_instance; (first | with_reducible assumption | omega); (first | with_reducible assumption | omega)) | ((with_reducible apply ev_sl_h); exact rfl; exact rfl; infer_instance; (first | with_reducible assumption | omega)) | ((with_reducible apply ev_sl_l); exact rfl; exact rfl; infer_instance; (first | with_reducible assumption | omega)) | (go_simp; try with_reducible rfl))
      try simp only [Act.put, sA]; try simp only [sB, sC]
      refine wpAnyH_ready (rs := [1, 12]) (by kernel_rfl) (by simp) (AllReadyH.cons rfl (fun K_ hK_ => ?br10_1) (AllReadyH.cons rfl (fun K_ hK_ => ?br10_12) AllReadyH.nil))
      case' br10_1 =>
        rw [if_pos (by kernel_rfl)]
        refine wpr_of_list ?_
        (first | ((with_reducible apply (stop_dst (dst := some 13))); (try simp only [Act.put, sA, sB, sC]); ((with_reducible apply (wpl_bslice (dst := some 13))); (exact run_emptyO _); intro zn wb _ _ _)) | ((with_reducible apply (stop_dst (dst := some 20))); (with_reducible apply (wpl_appendR (α := OM))); exact rfl; exact rfl; infer_instance; (exact HO.ofEmptyO _ zn _); (exact HR.takeR (l := l) inferInstance i); exact rfl; (exact hl1); (omega); (decide); (decide); intro A1 c1 wa1 _ ho1 g1 hcap1) | ((with_reducible apply (stop_dst (dst := some 28))); (with_reducible apply (wpl_appendR (α := OM))); exact rfl; exact rfl; infer_instance; infer_instance; (exact HR.cutR (l := l) (n := n) inferInstance hn hcap (i + 1) 5 rfl); exact rfl; (exact hl2); (omega); (decide); (decide); intro A2 c2 wa2 _ ho2 g2 hcap2))
        refine wpList_nil ?_
        unfold onlyN
        refine hK_.out _ _ inferInstance (fun _ => ?_)
        clear hK_ K_
        try simp only [Act.put, sA]; try simp only [sB, sC]
        refine wpAnyH_ready (rs := [8, 12]) (by kernel_rfl) (by simp) (AllReadyH.cons rfl (fun K_ hK_ => ?br11_8) (AllReadyH.cons rfl (fun K_ hK_ => ?br11_12) AllReadyH.nil))
        case' br11_8 =>
          rw [if_pos (by kernel_rfl)]
          refine wpr_of_list ?_
          (first | ((with_reducible apply (stop_dst (dst := some 13))); (try simp only [Act.put, sA, sB, sC]); ((with_reducible apply (wpl_bslice (dst := some 13))); (exact run_emptyO _); intro zn wb _ _ _)) | ((with_reducible apply (stop_dst (dst := some 20))); (with_reducible apply (wpl_appendR (α := OM))); exact rfl; exact rfl; infer_instance; (exact HO.ofEmptyO _ zn _); (exact HR.takeR (l := l) inferInstance i); exact rfl; (exact hl1); (omega); (decide); (decide); intro A1 c1 wa1 _ ho1 g1 hcap1) | ((with_reducible apply (stop_dst (dst := some 28))); (with_reducible apply (wpl_appendR (α := OM))); exact rfl; exact rfl; infer_instance; infer_instance; (exact HR.cutR (l := l) (n := n) inferInstance hn hcap (i + 1) 5 rfl); exact rfl; (exact hl2); (omega); (decide); (decide); intro A2 c2 wa2 _ ho2 g2 hcap2) | ((with_reducible apply wpl_appendB); exact rfl; exact rfl; infer_instance; (first | exact inferInstance | exact ⟨Own.nil _ _ _⟩); infer_instance; (first | with_reducible assumption | (with_reducible exact H32.len _) | (focus (simp; done)) | omega); (first | with_reducible assumption | omega); intro A' c' wa _ _ _ hcap))
          refine wpList_nil ?_
          unfold onlyN
          refine hK_.out _ _ inferInstance (fun _ => ?_)
          clear hK_ K_
          try simp only [Act.put, sA]; try simp only [sB, sC]
          refine goH (i := 12) (by kernel_rfl) rfl (fun K_ hK_ => ?_)
          rw [if_pos (by kernel_rfl)]
          refine wpr_of_list ?_
          (first | ((with_reducible apply (stop_dst (dst := some 13))); (try simp only [Act.put, sA, sB, sC]); ((with_reducible apply (wpl_bslice (dst := some 13))); (exact run_emptyO _); intro zn wb _ _ _)) | ((with_reducible apply (stop_dst (dst := some 20))); (with_reducible apply (wpl_appendR (α := OM))); exact rfl; exact rfl; infer_instance; (exact HO.ofEmptyO _ zn _); (exact HR.takeR (l := l) inferInstance i); exact rfl; (exact hl1); (omega); (decide); (decide); intro A1 c1 wa1 _ ho1 g1 hcap1) | ((with_reducible apply (stop_dst (dst := some 28))); (with_reducible apply (wpl_appendR (α := OM))); exact rfl; exact rfl; infer_instance; infer_instance; (exact HR.cutR (l := l) (n := n) inferInstance hn hcap (i + 1) 5 rfl); exact rfl; (exact hl2); (omega); (decide); (decide); intro A2 c2 wa2 _ ho2 g2 hcap2) | ((with_reducible apply wpl_loadrow); exact rfl; infer_instance; infer_instance; (first | with_reducible assumption | (with_reducible exact enc_sz _ rfl) | kernel_rfl)) | ((with_reducible apply wpl_loadcellN); exact rfl; infer_instance; exact rfl) | ((with_reducible apply (wpl_loadE (α := OM) (t := 90))); infer_instance; exact rfl; infer_instance; exact rfl; (decide); (first | with_reducible assumption | omega | (focus (simp; done)) | (focus (simp; omega; done)) | decide)) | ((with_reducible apply (wpl_loadF (α := OM))); infer_instance; exact rfl; infer_instance; exact rfl; (first | with_reducible assumption | omega | (focus (simp; done)) | (focus (simp; omega; done)) | decide); exact rfl) | ((with_reducible apply (wpl_loadint (t := 3))); exact rfl; infer_instance; infer_instance; (first | with_reducible assumption | omega)) | ((with_reducible apply (wpl_loadbyte (t := 5))); exact rfl; infer_instance; infer_instance; (first | with_reducible assumption | omega)))
          refine wpList_nil ?_
          unfold onlyN
          refine hK_.out _ _ inferInstance (fun _ => ?_)
          clear hK_ K_
          try simp only [Act.put, sA]; try simp only [sB, sC]
          refine' takeH (i := 15) (v := _) rfl (by kernel_rfl) (by kernel_rfl) (by kernel_rfl) (fun _ _ _ h => h) (yields_of (by rfl) (fun w' _ => ?_)) inferInstance ?_
          rotate_left
          · (first | ((with_reducible apply ev_sl_lh); exact rfl; exact rfl; exact rfl; infer_instance; (first | with_reducible assumption | omega); (first | with_reducible assumption | omega)) | ((with_reducible apply ev_sl_h); exact rfl; exact rfl; infer_instance; (first | with_reducible assumption | omega)) | ((with_reducible apply ev_sl_l); exact rfl; exact rfl; infer_instance; (first | with_reducible assumption | omega)) | (go_simp; try with_reducible rfl))
          try simp only [Act.put, sA]; try simp only [sB, sC]
          refine goH (i := 16) (by kernel_rfl) rfl (fun K_ hK_ => ?_)
          rw [if_pos (by kernel_rfl)]
          refine wpr_of_list ?_
          (first | ((with_reducible apply (stop_dst (dst := some 13))); (try simp only [Act.put, sA, sB, sC]); ((with_reducible apply (wpl_bslice (dst := some 13))); (exact run_emptyO _); intro zn wb _ _ _)) | ((with_reducible apply (stop_dst (dst := some 20))); (with_reducible apply (wpl_appendR (α := OM))); exact rfl; exact rfl; infer_instance; (exact HO.ofEmptyO _ zn _); (exact HR.takeR (l := l) inferInstance i); exact rfl; (exact hl1); (omega); (decide); (decide); intro A1 c1 wa1 _ ho1 g1 hcap1) | ((with_reducible apply (stop_dst (dst := some 28))); (with_reducible apply (wpl_appendR (α := OM))); exact rfl; exact rfl; infer_instance; infer_instance; (exact HR.cutR (l := l) (n := n) inferInstance hn hcap (i + 1) 5 rfl); exact rfl; (exact hl2); (omega); (decide); (decide); intro A2 c2 wa2 _ ho2 g2 hcap2) | ((with_reducible apply wpl_appendB); exact rfl; exact rfl; infer_instance; (first | exact inferInstance | exact ⟨Own.nil _ _ _⟩); infer_instance; (first | with_reducible assumption | (with_reducible exact H32.len _) | (focus (simp; done)) | omega); (first | with_reducible assumption | omega); intro A' c' wa _ _ _ hcap))
          refine wpList_nil ?_
          unfold onlyN
          refine hK_.out _ _ inferInstance (fun _ => ?_)
          clear hK_ K_
          try simp only [Act.put, sA]; try simp only [sB, sC]
          refine' takeH (i := 17) (v := _) rfl (by kernel_rfl) (by kernel_rfl) (by kernel_rfl) (fun _ _ _ h => h) (yields_of (by rfl) (fun w' _ => ?_)) inferInstance ?_
          rotate_left
          · (go_simp; try with_reducible rfl)
          try simp only [Act.put, sA]; try simp only [sB, sC]
          refine' takeH (i := 18) (v := _) rfl (by kernel_rfl) (by kernel_rfl) (by kernel_rfl) (fun _ _ _ h => h) (yields_of (by rfl) (fun w' _ => ?_)) inferInstance ?_
          rotate_left
          · (first | ((with_reducible apply (ev_fieldE (t := 90))); (exact Try.underlying90); exact rfl; (kernel_rfl); exact rfl; infer_instance; (exact cells_pos (by decide) (by omega))) | (go_simp; try with_reducible rfl))
          try simp only [Act.put, sA]; try simp only [sB, sC]
          refine goH (i := 19) (by kernel_rfl) rfl (fun K_ hK_ => ?_)
          rw [if_pos (by kernel_rfl)]
          refine wpr_of_list ?_
          (first | ((with_reducible apply (stop_dst (dst := some 13))); (try simp only [Act.put, sA, sB, sC]); ((with_reducible apply (wpl_bslice (dst := some 13))); (exact run_emptyO _); intro zn wb _ _ _)) | ((with_reducible apply (stop_dst (dst := some 20))); (with_reducible apply (wpl_appendR (α := OM))); exact rfl; exact rfl; infer_instance; (exact HO.ofEmptyO _ zn _); (exact HR.takeR (l := l) inferInstance i); exact rfl; (exact hl1); (omega); (decide); (decide); intro A1 c1 wa1 _ ho1 g1 hcap1) | ((with_reducible apply (stop_dst (dst := some 28))); (with_reducible apply (wpl_appendR (α := OM))); exact rfl; exact rfl; infer_instance; infer_instance; (exact HR.cutR (l := l) (n := n) inferInstance hn hcap (i + 1) 5 rfl); exact rfl; (exact hl2); (omega); (decide); (decide); intro A2 c2 wa2 _ ho2 g2 hcap2) | ((with_reducible apply wpl_storerow); exact rfl; exact rfl; infer_instance; infer_instance; (first | with_reducible assumption | (with_reducible exact enc_sz _ rfl) | kernel_rfl); (first | with_reducible assumption | (with_reducible exact enc_sz _ rfl) | kernel_rfl); (first | (with_reducible exact u8s_one _) | with_reducible assumption | (with_reducible exact enc_one _) | kernel_rfl); intro ws _ _) | ((with_reducible apply wpl_storecell); exact rfl; exact rfl; infer_instance; exact rfl; (first | with_reducible assumption | omega | (focus (simp; done)) | (focus (simp; omega; done)) | decide); intro ws _ _) | ((with_reducible apply (wpl_storeint (t := 3))); exact rfl; exact rfl; infer_instance; (first | with_reducible assumption | omega); intro ws _ _) | ((with_reducible apply (wpl_storebyte (t := 5))); exact rfl; exact rfl; infer_instance; (first | with_reducible assumption | omega | (focus (simp; done)) | (focus (simp; omega; done)) | decide); (constructor <;> omega); intro ws _ _))
          refine wpList_nil ?_
          unfold onlyN
          refine hK_.out _ _ inferInstance (fun _ => ?_)
          clear hK_ K_
          try simp only [Act.put]
          refine wpAnyH_done (by kernel_rfl) ?_ _
        case' br11_12 =>
          rw [if_pos (by kernel_rfl)]
          refine wpr_of_list ?_
          (first | ((with_reducible apply (stop_dst (dst := some 13))); (try simp only [Act.put, sA, sB, sC]); ((with_reducible apply (wpl_bslice (dst := some 13))); (exact run_emptyO _); intro zn wb _ _ _)) | ((with_reducible apply (stop_dst (dst := some 20))); (with_reducible apply (wpl_appendR (α := OM))); exact rfl; exact rfl; infer_instance; (exact HO.ofEmptyO _ zn _); (exact HR.takeR (l := l) inferInstance i); exact rfl; (exact hl1); (omega); (decide); (decide); intro A1 c1 wa1 _ ho1 g1 hcap1) | ((with_reducible apply (stop_dst (dst := some 28))); (with_reducible apply (wpl_appendR (α := OM))); exact rfl; exact rfl; infer_instance; infer_instance; (exact HR.cutR (l := l) (n := n) inferInstance hn hcap (i + 1) 5 rfl); exact rfl; (exact hl2); (omega); (decide); (decide); intro A2 c2 wa2 _ ho2 g2 hcap2) | ((with_reducible apply wpl_loadrow); exact rfl; infer_instance; infer_instance; (first | with_reducible assumption | (with_reducible exact enc_sz _ rfl) | kernel_rfl)) | ((with_reducible apply wpl_loadcellN); exact rfl; infer_instance; exact rfl) | ((with_reducible apply (wpl_loadE (α := OM) (t := 90))); infer_instance; exact rfl; infer_instance; exact rfl; (decide); (first | with_reducible assumption | omega | (focus (simp; done)) | (focus (simp; omega; done)) | decide)) | ((with_reducible apply (wpl_loadF (α := OM))); infer_instance; exact rfl; infer_instance; exact rfl; (first | with_reducible assumption | omega | (focus (simp; done)) | (focus (simp; omega; done)) | decide); exact rfl) | ((with_reducible apply (wpl_loadint (t := 3))); exact rfl; infer_instance; infer_instance; (first | with_reducible assumption | omega)) | ((with_reducible apply (wpl_loadbyte (t := 5))); exact rfl; infer_instance; infer_instance; (first | with_reducible assumption | omega)))
          refine wpList_nil ?_
          unfold onlyN
          refine hK_.out _ _ inferInstance (fun _ => ?_)
          clear hK_ K_
          try simp only [Act.put, sA]; try simp only [sB, sC]
          refine' takeH (i := 15) (v := _) rfl (by kernel_rfl) (by kernel_rfl) (by kernel_rfl) (fun _ _ _ h => h) (yields_of (by rfl) (fun w' _ => ?_)) inferInstance ?_
          rotate_left
          · (first | ((with_reducible apply ev_sl_lh); exact rfl; exact rfl; exact rfl; infer_instance; (first | with_reducible assumption | omega); (first | with_reducible assumption | omega)) | ((with_reducible apply ev_sl_h); exact rfl; exact rfl; infer_instance; (first | with_reducible assumption | omega)) | ((with_reducible apply ev_sl_l); exact rfl; exact rfl; infer_instance; (first | with_reducible assumption | omega)) | (go_simp; try with_reducible rfl))
          try simp only [Act.put, sA]; try simp only [sB, sC]
          refine goH (i := 8) (by kernel_rfl) rfl (fun K_ hK_ => ?_)
          rw [if_pos (by kernel_rfl)]
          refine wpr_of_list ?_
          (first | ((with_reducible apply (stop_dst (dst := some 13))); (try simp only [Act.put, sA, sB, sC]); ((with_reducible apply (wpl_bslice (dst := some 13))); (exact run_emptyO _); intro zn wb _ _ _)) | ((with_reducible apply (stop_dst (dst := some 20))); (with_reducible apply (wpl_appendR (α := OM))); exact rfl; exact rfl; infer_instance; (exact HO.ofEmptyO _ zn _); (exact HR.takeR (l := l) inferInstance i); exact rfl; (exact hl1); (omega); (decide); (decide); intro A1 c1 wa1 _ ho1 g1 hcap1) | ((with_reducible apply (stop_dst (dst := some 28))); (with_reducible apply (wpl_appendR (α := OM))); exact rfl; exact rfl; infer_instance; infer_instance; (exact HR.cutR (l := l) (n := n) inferInstance hn hcap (i + 1) 5 rfl); exact rfl; (exact hl2); (omega); (decide); (decide); intro A2 c2 wa2 _ ho2 g2 hcap2) | ((with_reducible apply wpl_appendB); exact rfl; exact rfl; infer_instance; (first | exact inferInstance | exact ⟨Own.nil _ _ _⟩); infer_instance; (first | with_reducible assumption | (with_reducible exact H32.len _) | (focus (simp; done)) | omega); (first | with_reducible assumption | omega); intro A' c' wa _ _ _ hcap))
          refine wpList_nil ?_
          unfold onlyN
          refine hK_.out _ _ inferInstance (fun _ => ?_)
          clear hK_ K_
          try simp only [Act.put, sA]; try simp only [sB, sC]
          refine goH (i := 16) (by kernel_rfl) rfl (fun K_ hK_ => ?_)
          rw [if_pos (by kernel_rfl)]
          refine wpr_of_list ?_
          (first | ((with_reducible apply (stop_dst (dst := some 13))); (try simp only [Act.put, sA, sB, sC]); ((with_reducible apply (wpl_bslice (dst := some 13))); (exact run_emptyO _); intro zn wb _ _ _)) | ((with_reducible apply (stop_dst (dst := some 20))); (with_reducible apply (wpl_appendR (α := OM))); exact rfl; exact rfl; infer_instance; (exact HO.ofEmptyO _ zn _); (exact HR.takeR (l := l) inferInstance i); exact rfl; (exact hl1); (omega); (decide); (decide); intro A1 c1 wa1 _ ho1 g1 hcap1) | ((with_reducible apply (stop_dst (dst := some 28))); (with_reducible apply (wpl_appendR (α := OM))); exact rfl; exact rfl; infer_instance; infer_instance; (exact HR.cutR (l := l) (n := n) inferInstance hn hcap (i + 1) 5 rfl); exact rfl; (exact hl2); (omega); (decide); (decide); intro A2 c2 wa2 _ ho2 g2 hcap2) | ((with_reducible apply wpl_appendB); exact rfl; exact rfl; infer_instance; (first | exact inferInstance | exact ⟨Own.nil _ _ _⟩); infer_instance; (first | with_reducible assumption | (with_reducible exact H32.len _) | (focus (simp; done)) | omega); (first | with_reducible assumption | omega); intro A' c' wa _ _ _ hcap))
          refine wpList_nil ?_
          unfold onlyN
          refine hK_.out _ _ inferInstance (fun _ => ?_)
          clear hK_ K_
          try simp only [Act.put, sA]; try simp only [sB, sC]
          refine' takeH (i := 17) (v := _) rfl (by kernel_rfl) (by kernel_rfl) (by kernel_rfl) (fun _ _ _ h => h) (yields_of (by rfl) (fun w' _ => ?_)) inferInstance ?_
          rotate_left
          · (go_simp; try with_reducible rfl)
          try simp only [Act.put, sA]; try simp only [sB, sC]
          refine' takeH (i := 18) (v := _) rfl (by kernel_rfl) (by kernel_rfl) (by kernel_rfl) (fun _ _ _ h => h) (yields_of (by rfl) (fun w' _ => ?_)) inferInstance ?_
          rotate_left
          · (first | ((with_reducible apply (ev_fieldE (t := 90))); (exact Try.underlying90); exact rfl; (kernel_rfl); exact rfl; infer_instance; (exact cells_pos (by decide) (by omega))) | (go_simp; try with_reducible rfl))
          try simp only [Act.put, sA]; try simp only [sB, sC]
          refine goH (i := 19) (by kernel_rfl) rfl (fun K_ hK_ => ?_)
          rw [if_pos (by kernel_rfl)]
          refine wpr_of_list ?_
          (first | ((with_reducible apply (stop_dst (dst := some 13))); (try simp only [Act.put, sA, sB, sC]); ((with_reducible apply (wpl_bslice (dst := some 13))); (exact run_emptyO _); intro zn wb _ _ _)) | ((with_reducible apply (stop_dst (dst := some 20))); (with_reducible apply (wpl_appendR (α := OM))); exact rfl; exact rfl; infer_instance; (exact HO.ofEmptyO _ zn _); (exact HR.takeR (l := l) inferInstance i); exact rfl; (exact hl1); (omega); (decide); (decide); intro A1 c1 wa1 _ ho1 g1 hcap1) | ((with_reducible apply (stop_dst (dst := some 28))); (with_reducible apply (wpl_appendR (α := OM))); exact rfl; exact rfl; infer_instance; infer_instance; (exact HR.cutR (l := l) (n := n) inferInstance hn hcap (i + 1) 5 rfl); exact rfl; (exact hl2); (omega); (decide); (decide); intro A2 c2 wa2 _ ho2 g2 hcap2) | ((with_reducible apply wpl_storerow); exact rfl; exact rfl; infer_instance; infer_instance; (first | with_reducible assumption | (with_reducible exact enc_sz _ rfl) | kernel_rfl); (first | with_reducible assumption | (with_reducible exact enc_sz _ rfl) | kernel_rfl); (first | (with_reducible exact u8s_one _) | with_reducible assumption | (with_reducible exact enc_one _) | kernel_rfl); intro ws _ _) | ((with_reducible apply wpl_storecell); exact rfl; exact rfl; infer_instance; exact rfl; (first | with_reducible assumption | omega | (focus (simp; done)) | (focus (simp; omega; done)) | decide); intro ws _ _) | ((with_reducible apply (wpl_storeint (t := 3))); exact rfl; exact rfl; infer_instance; (first | with_reducible assumption | omega); intro ws _ _) | ((with_reducible apply (wpl_storebyte (t := 5))); exact rfl; exact rfl; infer_instance; (first | with_reducible assumption | omega | (focus (simp; done)) | (focus (simp; omega; done)) | decide); (constructor <;> omega); intro ws _ _))
          refine wpList_nil ?_
          unfold onlyN
          refine hK_.out _ _ inferInstance (fun _ => ?_)
          clear hK_ K_
          try simp only [Act.put]
          refine wpAnyH_done (by kernel_rfl) ?_ _
      case' br10_12 =>
        rw [if_pos (by kernel_rfl)]
        refine wpr_of_list ?_
        (first | ((with_reducible apply (stop_dst (dst := some 13))); (try simp only [Act.put, sA, sB, sC]); ((with_reducible apply (wpl_bslice (dst := some 13))); (exact run_emptyO _); intro zn wb _ _ _)) | ((with_reducible apply (stop_dst (dst := some 20))); (with_reducible apply (wpl_appendR (α := OM))); exact rfl; exact rfl; infer_instance; (exact HO.ofEmptyO _ zn _); (exact HR.takeR (l := l) inferInstance i); exact rfl; (exact hl1); (omega); (decide); (decide); intro A1 c1 wa1 _ ho1 g1 hcap1) | ((with_reducible apply (stop_dst (dst := some 28))); (with_reducible apply (wpl_appendR (α := OM))); exact rfl; exact rfl; infer_instance; infer_instance; (exact HR.cutR (l := l) (n := n) inferInstance hn hcap (i + 1) 5 rfl); exact rfl; (exact hl2); (omega); (decide); (decide); intro A2 c2 wa2 _ ho2 g2 hcap2) | ((with_reducible apply wpl_loadrow); exact rfl; infer_instance; infer_instance; (first | with_reducible assumption | (with_reducible exact enc_sz _ rfl) | kernel_rfl)) | ((with_reducible apply wpl_loadcellN); exact rfl; infer_instance; exact rfl) | ((with_reducible apply (wpl_loadE (α := OM) (t := 90))); infer_instance; exact rfl; infer_instance; exact rfl; (decide); (first | with_reducible assumption | omega | (focus (simp; done)) | (focus (simp; omega; done)) | decide)) | ((with_reducible apply (wpl_loadF (α := OM))); infer_instance; exact rfl; infer_instance; exact rfl; (first | with_reducible assumption | omega | (focus (simp; done)) | (focus (simp; omega; done)) | decide); exact rfl) | ((with_reducible apply (wpl_loadint (t := 3))); exact rfl; infer_instance; infer_instance; (first | with_reducible assumption | omega)) | ((with_reducible apply (wpl_loadbyte (t := 5))); exact rfl; infer_instance; infer_instance; (first | with_reducible assumption | omega)))
        refine wpList_nil ?_
        unfold onlyN
        refine hK_.out _ _ inferInstance (fun _ => ?_)
        clear hK_ K_
        try simp only [Act.put, sA]; try simp only [sB, sC]
        refine' takeH (i := 15) (v := _) rfl (by kernel_rfl) (by kernel_rfl) (by kernel_rfl) (fun _ _ _ h => h) (yields_of (by rfl) (fun w' _ => ?_)) inferInstance ?_
        rotate_left
        · (first | ((with_reducible apply ev_sl_lh); exact rfl; exact rfl; exact rfl; infer_instance; (first | with_reducible assumption | omega); (first | with_reducible assumption | omega)) | ((with_reducible apply ev_sl_h); exact rfl; exact rfl; infer_instance; (first | with_reducible assumption | omega)) | ((with_reducible apply ev_sl_l); exact rfl; exact rfl; infer_instance; (first | with_reducible assumption | omega)) | (go_simp; try with_reducible rfl))
        try simp only [Act.put, sA]; try simp only [sB, sC]
        refine goH (i := 1) (by kernel_rfl) rfl (fun K_ hK_ => ?_)
        rw [if_pos (by kernel_rfl)]
        refine wpr_of_list ?_
        (first | ((with_reducible apply (stop_dst (dst := some 13))); (try simp only [Act.put, sA, sB, sC]); ((with_reducible apply (wpl_bslice (dst := some 13))); (exact run_emptyO _); intro zn wb _ _ _)) | ((with_reducible apply (stop_dst (dst := some 20))); (with_reducible apply (wpl_appendR (α := OM))); exact rfl; exact rfl; infer_instance; (exact HO.ofEmptyO _ zn _); (exact HR.takeR (l := l) inferInstance i); exact rfl; (exact hl1); (omega); (decide); (decide); intro A1 c1 wa1 _ ho1 g1 hcap1) | ((with_reducible apply (stop_dst (dst := some 28))); (with_reducible apply (wpl_appendR (α := OM))); exact rfl; exact rfl; infer_instance; infer_instance; (exact HR.cutR (l := l) (n := n) inferInstance hn hcap (i + 1) 5 rfl); exact rfl; (exact hl2); (omega); (decide); (decide); intro A2 c2 wa2 _ ho2 g2 hcap2))
        refine wpList_nil ?_
        unfold onlyN
        refine hK_.out _ _ inferInstance (fun _ => ?_)
        clear hK_ K_
        try simp only [Act.put, sA]; try simp only [sB, sC]
        refine goH (i := 8) (by kernel_rfl) rfl (fun K_ hK_ => ?_)
        rw [if_pos (by kernel_rfl)]
        refine wpr_of_list ?_
        (first | ((with_reducible apply (stop_dst (dst := some 13))); (try simp only [Act.put, sA, sB, sC]); ((with_reducible apply (wpl_bslice (dst := some 13))); (exact run_emptyO _); intro zn wb _ _ _)) | ((with_reducible apply (stop_dst (dst := some 20))); (with_reducible apply (wpl_appendR (α := OM))); exact rfl; exact rfl; infer_instance; (exact HO.ofEmptyO _ zn _); (exact HR.takeR (l := l) inferInstance i); exact rfl; (exact hl1); (omega); (decide); (decide); intro A1 c1 wa1 _ ho1 g1 hcap1) | ((with_reducible apply (stop_dst (dst := some 28))); (with_reducible apply (wpl_appendR (α := OM))); exact rfl; exact rfl; infer_instance; infer_instance; (exact HR.cutR (l := l) (n := n) inferInstance hn hcap (i + 1) 5 rfl); exact rfl; (exact hl2); (omega); (decide); (decide); intro A2 c2 wa2 _ ho2 g2 hcap2) | ((with_reducible apply wpl_appendB); exact rfl; exact rfl; infer_instance; (first | exact inferInstance | exact ⟨Own.nil _ _ _⟩); infer_instance; (first | with_reducible assumption | (with_reducible exact H32.len _) | (focus (simp; done)) | omega); (first | with_reducible assumption | omega); intro A' c' wa _ _ _ hcap))
        refine wpList_nil ?_
        unfold onlyN
        refine hK_.out _ _ inferInstance (fun _ => ?_)
        clear hK_ K_
        try simp only [Act.put, sA]; try simp only [sB, sC]
        refine goH (i := 16) (by kernel_rfl) rfl (fun K_ hK_ => ?_)
        rw [if_pos (by kernel_rfl)]
        refine wpr_of_list ?_
        (first | ((with_reducible apply (stop_dst (dst := some 13))); (try simp only [Act.put, sA, sB, sC]); ((with_reducible apply (wpl_bslice (dst := some 13))); (exact run_emptyO _); intro zn wb _ _ _)) | ((with_reducible apply (stop_dst (dst := some 20))); (with_reducible apply (wpl_appendR (α := OM))); exact rfl; exact rfl; infer_instance; (exact HO.ofEmptyO _ zn _); (exact HR.takeR (l := l) inferInstance i); exact rfl; (exact hl1); (omega); (decide); (decide); intro A1 c1 wa1 _ ho1 g1 hcap1) | ((with_reducible apply (stop_dst (dst := some 28))); (with_reducible apply (wpl_appendR (α := OM))); exact rfl; exact rfl; infer_instance; infer_instance; (exact HR.cutR (l := l) (n := n) inferInstance hn hcap (i + 1) 5 rfl); exact rfl; (exact hl2); (omega); (decide); (decide); intro A2 c2 wa2 _ ho2 g2 hcap2) | ((with_reducible apply wpl_appendB); exact rfl; exact rfl; infer_instance; (first | exact inferInstance | exact ⟨Own.nil _ _ _⟩); infer_instance; (first | with_reducible assumption | (with_reducible exact H32.len _) | (focus (simp; done)) | omega); (first | with_reducible assumption | omega); intro A' c' wa _ _ _ hcap))
        refine wpList_nil ?_
        unfold onlyN
        refine hK_.out _ _ inferInstance (fun _ => ?_)
        clear hK_ K_
        try simp only [Act.put, sA]; try simp only [sB, sC]
        refine' takeH (i := 17) (v := _) rfl (by kernel_rfl) (by kernel_rfl) (by kernel_rfl) (fun _ _ _ h => h) (yields_of (by rfl) (fun w' _ => ?_)) inferInstance ?_
        rotate_left
        · (go_simp; try with_reducible rfl)
        try simp only [Act.put, sA]; try simp only [sB, sC]
        refine' takeH (i := 18) (v := _) rfl (by kernel_rfl) (by kernel_rfl) (by kernel_rfl) (fun _ _ _ h => h) (yields_of (by rfl) (fun w' _ => ?_)) inferInstance ?_
        rotate_left
        · (first | ((with_reducible apply (ev_fieldE (t := 90))); (exact Try.underlying90); exact rfl; (kernel_rfl); exact rfl; infer_instance; (exact cells_pos (by decide) (by omega))) | (go_simp; try with_reducible rfl))
        try simp only [Act.put, sA]; try simp only [sB, sC]
        refine goH (i := 19) (by kernel_rfl) rfl (fun K_ hK_ => ?_)
        rw [if_pos (by kernel_rfl)]
        refine wpr_of_list ?_
        (first | ((with_reducible apply (stop_dst (dst := some 13))); (try simp only [Act.put, sA, sB, sC]); ((with_reducible apply (wpl_bslice (dst := some 13))); (exact run_emptyO _); intro zn wb _ _ _)) | ((with_reducible apply (stop_dst (dst := some 20))); (with_reducible apply (wpl_appendR (α := OM))); exact rfl; exact rfl; infer_instance; (exact HO.ofEmptyO _ zn _); (exact HR.takeR (l := l) inferInstance i); exact rfl; (exact hl1); (omega); (decide); (decide); intro A1 c1 wa1 _ ho1 g1 hcap1) | ((with_reducible apply (stop_dst (dst := some 28))); (with_reducible apply (wpl_appendR (α := OM))); exact rfl; exact rfl; infer_instance; infer_instance; (exact HR.cutR (l := l) (n := n) inferInstance hn hcap (i + 1) 5 rfl); exact rfl; (exact hl2); (omega); (decide); (decide); intro A2 c2 wa2 _ ho2 g2 hcap2) | ((with_reducible apply wpl_storerow); exact rfl; exact rfl; infer_instance; infer_instance; (first | with_reducible assumption | (with_reducible exact enc_sz _ rfl) | kernel_rfl); (first | with_reducible assumption | (with_reducible exact enc_sz _ rfl) | kernel_rfl); (first | (with_reducible exact u8s_one _) | with_reducible assumption | (with_reducible exact enc_one _) | kernel_rfl); intro ws _ _) | ((with_reducible apply wpl_storecell); exact rfl; exact rfl; infer_instance; exact rfl; (first | with_reducible assumption | omega | (focus (simp; done)) | (focus (simp; omega; done)) | decide); intro ws _ _) | ((with_reducible apply (wpl_storeint (t := 3))); exact rfl; exact rfl; infer_instance; (first | with_reducible assumption | omega); intro ws _ _) | ((with_reducible apply (wpl_storebyte (t := 5))); exact rfl; exact rfl; infer_instance; (first | with_reducible assumption | omega | (focus (simp; done)) | (focus (simp; omega; done)) | decide); (constructor <;> omega); intro ws _ _))
        refine wpList_nil ?_
        unfold onlyN
        refine hK_.out _ _ inferInstance (fun _ => ?_)
        clear hK_ K_
        try simp only [Act.put]
        refine wpAnyH_done (by kernel_rfl) ?_ _
    case' br7_12 =>
      rw [if_pos (by kernel_rfl)]
      refine wpr_of_list ?_
      (first | ((with_reducible apply (stop_dst (dst := some 13))); (try simp only [Act.put, sA, sB, sC]); ((with_reducible apply (wpl_bslice (dst := some 13))); (exact run_emptyO _); intro zn wb _ _ _)) | ((with_reducible apply (stop_dst (dst := some 20))); (with_reducible apply (wpl_appendR (α := OM))); exact rfl; exact rfl; infer_instance; (exact HO.ofEmptyO _ zn _); (exact HR.takeR (l := l) inferInstance i); exact rfl; (exact hl1); (omega); (decide); (decide); intro A1 c1 wa1 _ ho1 g1 hcap1) | ((with_reducible apply (stop_dst (dst := some 28))); (with_reducible apply (wpl_appendR (α := OM))); exact rfl; exact rfl; infer_instance; infer_instance; (exact HR.cutR (l := l) (n := n) inferInstance hn hcap (i + 1) 5 rfl); exact rfl; (exact hl2); (omega); (decide); (decide); intro A2 c2 wa2 _ ho2 g2 hcap2) | ((with_reducible apply wpl_loadrow); exact rfl; infer_instance; infer_instance; (first | with_reducible assumption | (with_reducible exact enc_sz _ rfl) | kernel_rfl)) | ((with_reducible apply wpl_loadcellN); exact rfl; infer_instance; exact rfl) | ((with_reducible apply (wpl_loadE (α := OM) (t := 90))); infer_instance; exact rfl; infer_instance; exact rfl; (decide); (first | with_reducible assumption | omega | (focus (simp; done)) | (focus (simp; omega; done)) | decide)) | ((with_reducible apply (wpl_loadF (α := OM))); infer_instance; exact rfl; infer_instance; exact rfl; (first | with_reducible assumption | omega | (focus (simp; done)) | (focus (simp; omega; done)) | decide); exact rfl) | ((with_reducible apply (wpl_loadint (t := 3))); exact rfl; infer_instance; infer_instance; (first | with_reducible assumption | omega)) | ((with_reducible apply (wpl_loadbyte (t := 5))); exact rfl; infer_instance; infer_instance; (first | with_reducible assumption | omega)))
      refine wpList_nil ?_
      unfold onlyN
      refine hK_.out _ _ inferInstance (fun _ => ?_)
      clear hK_ K_
      try simp only [Act.put, sA]; try simp only [sB, sC]
      refine' takeH (i := 15) (v := _) rfl (by kernel_rfl) (by kernel_rfl) (by kernel_rfl) (fun _ _ _ h => h) (yields_of (by rfl) (fun w' _ => ?_)) inferInstance ?_
      rotate_left
      · (first | ((with_reducible apply ev_sl_lh); exact rfl; exact rfl; exact rfl; infer_instance; (first | with_reducible assumption | omega); (first | with_reducible assumption | omega)) | ((with_reducible apply ev_sl_h); exact rfl; exact rfl; infer_instance; (first | with_reducible assumption | omega)) | ((with_reducible apply ev_sl_l); exact rfl; exact rfl; infer_instance; (first | with_reducible assumption | omega)) | (go_simp; try with_reducible rfl))
      try simp only [Act.put, sA]; try simp only [sB, sC]
      refine wpAnyH_ready (rs := [1, 5]) (by kernel_rfl) (by simp) (AllReadyH.cons rfl (fun K_ hK_ => ?br12_1) (AllReadyH.cons rfl (fun K_ hK_ => ?br12_5) AllReadyH.nil))
      case' br12_1 =>
        rw [if_pos (by kernel_rfl)]
        refine wpr_of_list ?_
        (first | ((with_reducible apply (stop_dst (dst := some 13))); (try simp only [Act.put, sA, sB, sC]); ((with_reducible apply (wpl_bslice (dst := some 13))); (exact run_emptyO _); intro zn wb _ _ _)) | ((with_reducible apply (stop_dst (dst := some 20))); (with_reducible apply (wpl_appendR (α := OM))); exact rfl; exact rfl; infer_instance; (exact HO.ofEmptyO _ zn _); (exact HR.takeR (l := l) inferInstance i); exact rfl; (exact hl1); (omega); (decide); (decide); intro A1 c1 wa1 _ ho1 g1 hcap1) | ((with_reducible apply (stop_dst (dst := some 28))); (with_reducible apply (wpl_appendR (α := OM))); exact rfl; exact rfl; infer_instance; infer_instance; (exact HR.cutR (l := l) (n := n) inferInstance hn hcap (i + 1) 5 rfl); exact rfl; (exact hl2); (omega); (decide); (decide); intro A2 c2 wa2 _ ho2 g2 hcap2))
        refine wpList_nil ?_
        unfold onlyN
        refine hK_.out _ _ inferInstance (fun _ => ?_)
        clear hK_ K_
        try simp only [Act.put, sA]; try simp only [sB, sC]
        refine goH (i := 5) (by kernel_rfl) rfl (fun K_ hK_ => ?_)
        rw [if_pos (by kernel_rfl)]
        refine wpr_of_list ?_
        (first | ((with_reducible apply (stop_dst (dst := some 13))); (try simp only [Act.put, sA, sB, sC]); ((with_reducible apply (wpl_bslice (dst := some 13))); (exact run_emptyO _); intro zn wb _ _ _)) | ((with_reducible apply (stop_dst (dst := some 20))); (with_reducible apply (wpl_appendR (α := OM))); exact rfl; exact rfl; infer_instance; (exact HO.ofEmptyO _ zn _); (exact HR.takeR (l := l) inferInstance i); exact rfl; (exact hl1); (omega); (decide); (decide); intro A1 c1 wa1 _ ho1 g1 hcap1) | ((with_reducible apply (stop_dst (dst := some 28))); (with_reducible apply (wpl_appendR (α := OM))); exact rfl; exact rfl; infer_instance; infer_instance; (exact HR.cutR (l := l) (n := n) inferInstance hn hcap (i + 1) 5 rfl); exact rfl; (exact hl2); (omega); (decide); (decide); intro A2 c2 wa2 _ ho2 g2 hcap2) | ((with_reducible apply wpl_loadrow); exact rfl; infer_instance; infer_instance; (first | with_reducible assumption | (with_reducible exact enc_sz _ rfl) | kernel_rfl)) | ((with_reducible apply wpl_loadcellN); exact rfl; infer_instance; exact rfl) | ((with_reducible apply (wpl_loadE (α := OM) (t := 90))); infer_instance; exact rfl; infer_instance; exact rfl; (decide); (first | with_reducible assumption | omega | (focus (simp; done)) | (focus (simp; omega; done)) | decide)) | ((with_reducible apply (wpl_loadF (α := OM))); infer_instance; exact rfl; infer_instance; exact rfl; (first | with_reducible assumption | omega | (focus (simp; done)) | (focus (simp; omega; done)) | decide); exact rfl) | ((with_reducible apply (wpl_loadint (t := 3))); exact rfl; infer_instance; infer_instance; (first | with_reducible assumption | omega)) | ((with_reducible apply (wpl_loadbyte (t := 5))); exact rfl; infer_instance; infer_instance; (first | with_reducible assumption | omega)))
        refine wpList_nil ?_
        unfold onlyN
        refine hK_.out _ _ inferInstance (fun _ => ?_)
        clear hK_ K_
        try simp only [Act.put, sA]; try simp only [sB, sC]
        refine' takeH (i := 7) (v := _) rfl (by kernel_rfl) (by kernel_rfl) (by kernel_rfl) (fun _ _ _ h => h) (yields_of (by rfl) (fun w' _ => ?_)) inferInstance ?_
        rotate_left
        · (first | ((with_reducible apply ev_sl_lh); exact rfl; exact rfl; exact rfl; infer_instance; (first | with_reducible assumption | omega); (first | with_reducible assumption | omega)) | ((with_reducible apply ev_sl_h); exact rfl; exact rfl; infer_instance; (first | with_reducible assumption | omega)) | ((with_reducible apply ev_sl_l); exact rfl; exact rfl; infer_instance; (first | with_reducible assumption | omega)) | (go_simp; try with_reducible rfl))
        try simp only [Act.put, sA]; try simp only [sB, sC]
        refine goH (i := 8) (by kernel_rfl) rfl (fun K_ hK_ => ?_)
        rw [if_pos (by kernel_rfl)]
        refine wpr_of_list ?_
        (first | ((with_reducible apply (stop_dst (dst := some 13))); (try simp only [Act.put, sA, sB, sC]); ((with_reducible apply (wpl_bslice (dst := some 13))); (exact run_emptyO _); intro zn wb _ _ _)) | ((with_reducible apply (stop_dst (dst := some 20))); (with_reducible apply (wpl_appendR (α := OM))); exact rfl; exact rfl; infer_instance; (exact HO.ofEmptyO _ zn _); (exact HR.takeR (l := l) inferInstance i); exact rfl; (exact hl1); (omega); (decide); (decide); intro A1 c1 wa1 _ ho1 g1 hcap1) | ((with_reducible apply (stop_dst (dst := some 28))); (with_reducible apply (wpl_appendR (α := OM))); exact rfl; exact rfl; infer_instance; infer_instance; (exact HR.cutR (l := l) (n := n) inferInstance hn hcap (i + 1) 5 rfl); exact rfl; (exact hl2); (omega); (decide); (decide); intro A2 c2 wa2 _ ho2 g2 hcap2) | ((with_reducible apply wpl_appendB); exact rfl; exact rfl; infer_instance; (first | exact inferInstance | exact ⟨Own.nil _ _ _⟩); infer_instance; (first | with_reducible assumption | (with_reducible exact H32.len _) | (focus (simp; done)) | omega); (first | with_reducible assumption | omega); intro A' c' wa _ _ _ hcap))
        refine wpList_nil ?_
        unfold onlyN
        refine hK_.out _ _ inferInstance (fun _ => ?_)
        clear hK_ K_
        try simp only [Act.put, sA]; try simp only [sB, sC]
        refine goH (i := 16) (by kernel_rfl) rfl (fun K_ hK_ => ?_)
        rw [if_pos (by kernel_rfl)]
        refine wpr_of_list ?_
        (first | ((with_reducible apply (stop_dst (dst := some 13))); (try simp only [Act.put, sA, sB, sC]); ((with_reducible apply (wpl_bslice (dst := some 13))); (exact run_emptyO _); intro zn wb _ _ _)) | ((with_reducible apply (stop_dst (dst := some 20))); (with_reducible apply (wpl_appendR (α := OM))); exact rfl; exact rfl; infer_instance; (exact HO.ofEmptyO _ zn _); (exact HR.takeR (l := l) inferInstance i); exact rfl; (exact hl1); (omega); (decide); (decide); intro A1 c1 wa1 _ ho1 g1 hcap1) | ((with_reducible apply (stop_dst (dst := some 28))); (with_reducible apply (wpl_appendR (α := OM))); exact rfl; exact rfl; infer_instance; infer_instance; (exact HR.cutR (l := l) (n := n) inferInstance hn hcap (i + 1) 5 rfl); exact rfl; (exact hl2); (omega); (decide); (decide); intro A2 c2 wa2 _ ho2 g2 hcap2) | ((with_reducible apply wpl_appendB); exact rfl; exact rfl; infer_instance; (first | exact inferInstance | exact ⟨Own.nil _ _ _⟩); infer_instance; (first | with_reducible assumption | (with_reducible exact H32.len _) | (focus (simp; done)) | omega); (first | with_reducible assumption | omega); intro A' c' wa _ _ _ hcap))
        refine wpList_nil ?_
        unfold onlyN
        refine hK_.out _ _ inferInstance (fun _ => ?_)
        clear hK_ K_
        try simp only [Act.put, sA]; try simp only [sB, sC]
        refine' takeH (i := 17) (v := _) rfl (by kernel_rfl) (by kernel_rfl) (by kernel_rfl) (fun _ _ _ h => h) (yields_of (by rfl) (fun w' _ => ?_)) inferInstance ?_
        rotate_left
        · (go_simp; try with_reducible rfl)
        try simp only [Act.put, sA]; try simp only [sB, sC]
        refine' takeH (i := 18) (v := _) rfl (by kernel_rfl) (by kernel_rfl) (by kernel_rfl) (fun _ _ _ h => h) (yields_of (by rfl) (fun w' _ => ?_)) inferInstance ?_
        rotate_left
        · (first | ((with_reducible apply (ev_fieldE (t := 90))); (exact Try.underlying90); exact rfl; (kernel_rfl); exact rfl; infer_instance; (exact cells_pos (by decide) (by omega))) | (go_simp; try with_reducible rfl))
        try simp only [Act.put, sA]; try simp only [sB, sC]
        refine goH (i := 19) (by kernel_rfl) rfl (fun K_ hK_ => ?_)
        rw [if_pos (by kernel_rfl)]
        refine wpr_of_list ?_
        (first | ((with_reducible apply (stop_dst (dst := some 13))); (try simp only [Act.put, sA, sB, sC]); ((with_reducible apply (wpl_bslice (dst := some 13))); (exact run_emptyO _); intro zn wb _ _ _)) | ((with_reducible apply (stop_dst (dst := some 20))); (with_reducible apply (wpl_appendR (α := OM))); exact rfl; exact rfl; infer_instance; (exact HO.ofEmptyO _ zn _); (exact HR.takeR (l := l) inferInstance i); exact rfl; (exact hl1); (omega); (decide); (decide); intro A1 c1 wa1 _ ho1 g1 hcap1) | ((with_reducible apply (stop_dst (dst := some 28))); (with_reducible apply (wpl_appendR (α := OM))); exact rfl; exact rfl; infer_instance; infer_instance; (exact HR.cutR (l := l) (n := n) inferInstance hn hcap (i + 1) 5 rfl); exact rfl; (exact hl2); (omega); (decide); (decide); intro A2 c2 wa2 _ ho2 g2 hcap2) | ((with_reducible apply wpl_storerow); exact rfl; exact rfl; infer_instance; infer_instance; (first | with_reducible assumption | (with_reducible exact enc_sz _ rfl) | kernel_rfl); (first | with_reducible assumption | (with_reducible exact enc_sz _ rfl) | kernel_rfl); (first | (with_reducible exact u8s_one _) | with_reducible assumption | (with_reducible exact enc_one _) | kernel_rfl); intro ws _ _) | ((with_reducible apply wpl_storecell); exact rfl; exact rfl; infer_instance; exact rfl; (first | with_reducible assumption | omega | (focus (simp; done)) | (focus (simp; omega; done)) | decide); intro ws _ _) | ((with_reducible apply (wpl_storeint (t := 3))); exact rfl; exact rfl; infer_instance; (first | with_reducible assumption | omega); intro ws _ _) | ((with_reducible apply (wpl_storebyte (t := 5))); exact rfl; exact rfl; infer_instance; (first | with_reducible assumption | omega | (focus (simp; done)) | (focus (simp; omega; done)) | decide); (constructor <;> omega); intro ws _ _))
        refine wpList_nil ?_
        unfold onlyN
        refine hK_.out _ _ inferInstance (fun _ => ?_)
        clear hK_ K_
        try simp only [Act.put]
        refine wpAnyH_done (by kernel_rfl) ?_ _
      case' br12_5 =>
        rw [if_pos (by kernel_rfl)]
        refine wpr_of_list ?_
        (first | ((with_reducible apply (stop_dst (dst := some 13))); (try simp only [Act.put, sA, sB, sC]); ((with_reducible apply (wpl_bslice (dst := some 13))); (exact run_emptyO _); intro zn wb _ _ _)) | ((with_reducible apply (stop_dst (dst := some 20))); (with_reducible apply (wpl_appendR (α := OM))); exact rfl; exact rfl; infer_instance; (exact HO.ofEmptyO _ zn _); (exact HR.takeR (l := l) inferInstance i); exact rfl; (exact hl1); (omega); (decide); (decide); intro A1 c1 wa1 _ ho1 g1 hcap1) | ((with_reducible apply (stop_dst (dst := some 28))); (with_reducible apply (wpl_appendR (α := OM))); exact rfl; exact rfl; infer_instance; infer_instance; (exact HR.cutR (l := l) (n := n) inferInstance hn hcap (i + 1) 5 rfl); exact rfl; (exact hl2); (omega); (decide); (decide); intro A2 c2 wa2 _ ho2 g2 hcap2) | ((with_reducible apply wpl_loadrow); exact rfl; infer_instance; infer_instance; (first | with_reducible assumption | (with_reducible exact enc_sz _ rfl) | kernel_rfl)) | ((with_reducible apply wpl_loadcellN); exact rfl; infer_instance; exact rfl) | ((with_reducible apply (wpl_loadE (α := OM) (t := 90))); infer_instance; exact rfl; infer_instance; exact rfl; (decide); (first | with_reducible assumption | omega | (focus (simp; done)) | (focus (simp; omega; done)) | decide)) | ((with_reducible apply (wpl_loadF (α := OM))); infer_instance; exact rfl; infer_instance; exact rfl; (first | with_reducible assumption | omega | (focus (simp; done)) | (focus (simp; omega; done)) | decide); exact rfl) | ((with_reducible apply (wpl_loadint (t := 3))); exact rfl; infer_instance; infer_instance; (first | with_reducible assumption | omega)) | ((with_reducible apply (wpl_loadbyte (t := 5))); exact rfl; infer_instance; infer_instance; (first | with_reducible assumption | omega)))
        refine wpList_nil ?_
        unfold onlyN
        refine hK_.out _ _ inferInstance (fun _ => ?_)
        clear hK_ K_
        try simp only [Act.put, sA]; try simp only [sB, sC]
        refine' takeH (i := 7) (v := _) rfl (by kernel_rfl) (by kernel_rfl) (by kernel_rfl) (fun _ _ _ h => h) (yields_of (by rfl) (fun w' _ => ?_)) inferInstance ?_
        rotate_left
        · (first | ((with_reducible apply ev_sl_lh); exact rfl; exact rfl; exact rfl; infer_instance; (first | with_reducible assumption | omega); (first | with_reducible assumption | omega)) | ((with_reducible apply ev_sl_h); exact rfl; exact rfl; infer_instance; (first | with_reducible assumption | omega)) | ((with_reducible apply ev_sl_l); exact rfl; exact rfl; infer_instance; (first | with_reducible assumption | omega)) | (go_simp; try with_reducible rfl))
        try simp only [Act.put, sA]; try simp only [sB, sC]
        refine goH (i := 1) (by kernel_rfl) rfl (fun K_ hK_ => ?_)
        rw [if_pos (by kernel_rfl)]
        refine wpr_of_list ?_
        (first | ((with_reducible apply (stop_dst (dst := some 13))); (try simp only [Act.put, sA, sB, sC]); ((with_reducible apply (wpl_bslice (dst := some 13))); (exact run_emptyO _); intro zn wb _ _ _)) | ((with_reducible apply (stop_dst (dst := some 20))); (with_reducible apply (wpl_appendR (α := OM))); exact rfl; exact rfl; infer_instance; (exact HO.ofEmptyO _ zn _); (exact HR.takeR (l := l) inferInstance i); exact rfl; (exact hl1); (omega); (decide); (decide); intro A1 c1 wa1 _ ho1 g1 hcap1) | ((with_reducible apply (stop_dst (dst := some 28))); (with_reducible apply (wpl_appendR (α := OM))); exact rfl; exact rfl; infer_instance; infer_instance; (exact HR.cutR (l := l) (n := n) inferInstance hn hcap (i + 1) 5 rfl); exact rfl; (exact hl2); (omega); (decide); (decide); intro A2 c2 wa2 _ ho2 g2 hcap2))
        refine wpList_nil ?_
        unfold onlyN
        refine hK_.out _ _ inferInstance (fun _ => ?_)
        clear hK_ K_
        try simp only [Act.put, sA]; try simp only [sB, sC]
        refine goH (i := 8) (by kernel_rfl) rfl (fun K_ hK_ => ?_)
        rw [if_pos (by kernel_rfl)]
        refine wpr_of_list ?_
        (first | ((with_reducible apply (stop_dst (dst := some 13))); (try simp only [Act.put, sA, sB, sC]); ((with_reducible apply (wpl_bslice (dst := some 13))); (exact run_emptyO _); intro zn wb _ _ _)) | ((with_reducible apply (stop_dst (dst := some 20))); (with_reducible apply (wpl_appendR (α := OM))); exact rfl; exact rfl; infer_instance; (exact HO.ofEmptyO _ zn _); (exact HR.takeR (l := l) inferInstance i); exact rfl; (exact hl1); (omega); (decide); (decide); intro A1 c1 wa1 _ ho1 g1 hcap1) | ((with_reducible apply (stop_dst (dst := some 28))); (with_reducible apply (wpl_appendR (α := OM))); exact rfl; exact rfl; infer_instance; infer_instance; (exact HR.cutR (l := l) (n := n) inferInstance hn hcap (i + 1) 5 rfl); exact rfl; (exact hl2); (omega); (decide); (decide); intro A2 c2 wa2 _ ho2 g2 hcap2) | ((with_reducible apply wpl_appendB); exact rfl; exact rfl; infer_instance; (first | exact inferInstance | exact ⟨Own.nil _ _ _⟩); infer_instance; (first | with_reducible assumption | (with_reducible exact H32.len _) | (focus (simp; done)) | omega); (first | with_reducible assumption | omega); intro A' c' wa _ _ _ hcap))
        refine wpList_nil ?_
        unfold onlyN
        refine hK_.out _ _ inferInstance (fun _ => ?_)
        clear hK_ K_
        try simp only [Act.put, sA]; try simp only [sB, sC]
        refine goH (i := 16) (by kernel_rfl) rfl (fun K_ hK_ => ?_)
        rw [if_pos (by kernel_rfl)]
        refine wpr_of_list ?_
        (first | ((with_reducible apply (stop_dst (dst := some 13))); (try simp only [Act.put, sA, sB, sC]); ((with_reducible apply (wpl_bslice (dst := some 13))); (exact run_emptyO _); intro zn wb _ _ _)) | ((with_reducible apply (stop_dst (dst := some 20))); (with_reducible apply (wpl_appendR (α := OM))); exact rfl; exact rfl; infer_instance; (exact HO.ofEmptyO _ zn _); (exact HR.takeR (l := l) inferInstance i); exact rfl; (exact hl1); (omega); (decide); (decide); intro A1 c1 wa1 _ ho1 g1 hcap1) | ((with_reducible apply (stop_dst (dst := some 28))); (with_reducible apply (wpl_appendR (α := OM))); exact rfl; exact rfl; infer_instance; infer_instance; (exact HR.cutR (l := l) (n := n) inferInstance hn hcap (i + 1) 5 rfl); exact rfl; (exact hl2); (omega); (decide); (decide); intro A2 c2 wa2 _ ho2 g2 hcap2) | ((with_reducible apply wpl_appendB); exact rfl; exact rfl; infer_instance; (first | exact inferInstance | exact ⟨Own.nil _ _ _⟩); infer_instance; (first | with_reducible assumption | (with_reducible exact H32.len _) | (focus (simp; done)) | omega); (first | with_reducible assumption | omega); intro A' c' wa _ _ _ hcap))
        refine wpList_nil ?_
        unfold onlyN
        refine hK_.out _ _ inferInstance (fun _ => ?_)
        clear hK_ K_
        try simp only [Act.put, sA]; try simp only [sB, sC]
        refine' takeH (i := 17) (v := _) rfl (by kernel_rfl) (by kernel_rfl) (by kernel_rfl) (fun _ _ _ h => h) (yields_of (by rfl) (fun w' _ => ?_)) inferInstance ?_
        rotate_left
        · (go_simp; try with_reducible rfl)
        try simp only [Act.put, sA]; try simp only [sB, sC]
        refine' takeH (i := 18) (v := _) rfl (by kernel_rfl) (by kernel_rfl) (by kernel_rfl) (fun _ _ _ h => h) (yields_of (by rfl) (fun w' _ => ?_)) inferInstance ?_
        rotate_left
        · (first | ((with_reducible apply (ev_fieldE (t := 90))); (exact Try.underlying90); exact rfl; (kernel_rfl); exact rfl; infer_instance; (exact cells_pos (by decide) (by omega))) | (go_simp; try with_reducible rfl))
        try simp only [Act.put, sA]; try simp only [sB, sC]
        refine goH (i := 19) (by kernel_rfl) rfl (fun K_ hK_ => ?_)
        rw [if_pos (by kernel_rfl)]
        refine wpr_of_list ?_
        (first | ((with_reducible apply (stop_dst (dst := some 13))); (try simp only [Act.put, sA, sB, sC]); ((with_reducible apply (wpl_bslice (dst := some 13))); (exact run_emptyO _); intro zn wb _ _ _)) | ((with_reducible apply (stop_dst (dst := some 20))); (with_reducible apply (wpl_appendR (α := OM))); exact rfl; exact rfl; infer_instance; (exact HO.ofEmptyO _ zn _); (exact HR.takeR (l := l) inferInstance i); exact rfl; (exact hl1); (omega); (decide); (decide); intro A1 c1 wa1 _ ho1 g1 hcap1) | ((with_reducible apply (stop_dst (dst := some 28))); (with_reducible apply (wpl_appendR (α := OM))); exact rfl; exact rfl; infer_instance; infer_instance; (exact HR.cutR (l := l) (n := n) inferInstance hn hcap (i + 1) 5 rfl); exact rfl; (exact hl2); (omega); (decide); (decide); intro A2 c2 wa2 _ ho2 g2 hcap2) | ((with_reducible apply wpl_storerow); exact rfl; exact rfl; infer_instance; infer_instance; (first | with_reducible assumption | (with_reducible exact enc_sz _ rfl) | kernel_rfl); (first | with_reducible assumption | (with_reducible exact enc_sz _ rfl) | kernel_rfl); (first | (with_reducible exact u8s_one _) | with_reducible assumption | (with_reducible exact enc_one _) | kernel_rfl); intro ws _ _) | ((with_reducible apply wpl_storecell); exact rfl; exact rfl; infer_instance; exact rfl; (first | with_reducible assumption | omega | (focus (simp; done)) | (focus (simp; omega; done)) | decide); intro ws _ _) | ((with_reducible apply (wpl_storeint (t := 3))); exact rfl; exact rfl; infer_instance; (first | with_reducible assumption | omega); intro ws _ _) | ((with_reducible apply (wpl_storebyte (t := 5))); exact rfl; exact rfl; infer_instance; (first | with_reducible assumption | omega | (focus (simp; done)) | (focus (simp; omega; done)) | decide); (constructor <;> omega); intro ws _ _))
        refine wpList_nil ?_
        unfold onlyN
        refine hK_.out _ _ inferInstance (fun _ => ?_)
        clear hK_ K_
        try simp only [Act.put]
        refine wpAnyH_done (by kernel_rfl) ?_ _
    all_goals
      go_wp2_with fail
      go_end0
      have hC : Chg (only z) w ws := (stepC (w0 := w)).chg
      have hB2 : HB ws z 38 (#[.slice LA n lc, .int .i64 s.N].setIfInBounds 0 (.slice A2 (0 + i + (n - (i + 1))) c2)) := inferInstance
      have hO2 : HO ws 90 5 A2 (0 + i + (n - (i + 1))) c2 (cellsOf ([] ++ l.take i ++ l.drop (i + 1))) := inferInstance
      have hN2 : NewA w A2 := NewA.monoS (w0 := w) inferInstance
      exact ⟨rfl, XS.cutDone (s' := s.del id) h hn hil hr hx hC hB2 hO2 hN2 hR0⟩
end Go.Proofs.Ytmeeopfdplaiaaa
