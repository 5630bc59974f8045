/- RoI, RoJ -/
import Derived.Test.YtgjnjhhhbkidbaaGreatUcRoH
import Derived.Test.YtgjnjhhhbkidbaaGreatUcRoR
import Derived.Test.YtgjnjhhhbkidbaaGreatUcWzC
section
open Go Go.RowKit
namespace Go.Proofs.YtgjnjhhhbkidbaaGreat
theorem RRAt.far {S : Nat → Prop} {w w' : World} {g d : Nat} {s : RS} {m : Nat} (h : RRAt w g d s) (hc : Chg S w w') (hS : ∀ x, S x → m ≤ x) (hg : g < m) (hd : s.b ≠ [] → d < m) : RRAt w' g d s :=
 h.chg2 hc (fun e => by have := hS _ e; omega) (fun hne e => by have := hS _ e; have := hd hne; omega)
theorem RRAt.blk {w : World} {g d : Nat} {s : RS} (h : RRAt w g d s) : ∃ A n c, HB w g 110 #[.slice A n c, .bool s.e] := by
 obtain ⟨⟨A, n, c, _, _, hb, _⟩, _⟩ := h
 exact ⟨A, n, c, ⟨hb⟩⟩
def rg3 (g z : Nat) (A : Option Addr) : Nat → Prop := fun x => x = g ∨ x = z ∨ rowOf A x
instance subRg1 (w : World) (g z : Nat) (A : Option Addr) : Sub w (only g) (rg3 g z A) := ⟨fun _ _ h => .inl h⟩
instance subRg2 (w : World) (g z : Nat) (A : Option Addr) : Sub w (only z) (rg3 g z A) := ⟨fun _ _ h => .inr (.inl h)⟩
instance subRg3 (w : World) (g z : Nat) (A : Option Addr) : Sub w (rowOf A) (rg3 g z A) := ⟨fun _ _ h => .inr (.inr h)⟩
set_option maxRecDepth 100000 in
set_option maxHeartbeats 3200000 in
theorem rReadKeys_calls {g d : Nat} {s : RS} {w : World} (hw : RRAt w g d s) (hl : s.b.length ≤ 140737488351232) :
    Calls Tryz.prog 93 #[.pointer (some ⟨g, 0, none⟩)] w fun e w' => ∃ (k : KR) (need : Nat) (s' : RS), e = .returned (.agg (RowC.enc k).toArray) ∧ Step (only g) w w' ∧ Hid (RRAt w' g d s') ∧ Hid (GotQ s k.l need s' ∧ k.need = (need : Int)) ∧ Hid (KIn w' k ∧ NewA w k.A) := by
 have HW0 := Lib.hid hw
 have HL := Lib.hid hl
 have hgl := hw.lt
 have hdl := hw.dlt
 obtain ⟨N, hN⟩ : ∃ N, N = s.num.1 := ⟨_, rfl⟩
 obtain ⟨S, hS1⟩ : ∃ S, S = s.num.2 := ⟨_, rfl⟩
 have HN := Lib.hid hN
 have HS := Lib.hid hS1
 have hSl : S.b.length ≤ 140737488351232 := by rw [hS1]; exact Nat.le_trans (RS.num_le s) hl
 have hSd : S.b ≠ [] → d < w.heap.size := fun h => hdl (num_ne (by rw [← hS1]; exact h))
 clear hw hl hN hS1
 go_enter Tryz.func93, Tryz.ntmps93
 go_wp2_with (first | ((with_reducible apply (wpl_alloc (dst := some 2))); intro zo wzo _ _ _) | ((with_reducible apply (wpl_alloc (dst := some 3))); intro zk wzk _ _ _))
 have hzo : w.heap.size ≤ zo := Nat.le_of_eq (inferInstance : Born w zo).eq.symm
 have hzol : zo < wzo.heap.size := (inferInstance : HB wzo zo 91 #[.slice none 0 0, .int .i64 0]).out.lt
 have hzk0 : wzo.heap.size ≤ zk := Nat.le_of_eq (inferInstance : Born wzo zk).eq.symm
 have hszo : w.heap.size ≤ wzo.heap.size := (inferInstance : SzLe w wzo).out
 have hzkl : zk < wzk.heap.size := (inferInstance : HB wzk zk 91 #[.slice none 0 0, .int .i64 0]).out.lt
 have o1 : OffB (only g) zo := ⟨fun e => by have e' : zo = g := e; omega⟩
 have o2 : OffB (only g) zk := ⟨fun e => by have e' : zk = g := e; omega⟩
 have o3 : OffB (only zk) zo := ⟨fun e => by have e' : zo = zk := e; omega⟩
 have nk : Nw w wzk := inferInstance
 have hszk : w.heap.size ≤ wzk.heap.size := nk.out.size
 refine (rrNum_calls g d s wzk (HW0.out.chg nk.out (fun h => h) (fun h => h)) (by have := HL.out; omega)).mono ?_
 rw [← HN.out, ← HS.out]
 rintro e w2 ⟨rfl, h2, c2⟩
 have st2 : Step (only g) wzk w2 := ⟨c2.out⟩
 have hk2 : HB w2 zk 91 #[.slice none 0 0, .int .i64 0] := inferInstance
 have ho2 : HB w2 zo 91 #[.slice none 0 0, .int .i64 0] := inferInstance
 have hC2 : Hid (Chg (gz2 g zk) w w2) := Lib.hid ((nk.out.mono (T := gz2 g zk) (fun _ _ h => h.elim)).trans c2.out (fun _ _ h => .inl h))
 have hs2 : wzk.heap.size ≤ w2.heap.size := c2.out.size
 clear c2
 go_wp2_with fail
 go_loopw [5] (fun iv wr => ∃ (k : Nat) (A1 : Option Addr) (c1 : Nat), k ≤ N ∧ k ≤ 5 ∧ iv = .int .i64 (k : Int) ∧ k ≤ c1 ∧ Hid (Chg (gz2 g zk) w wr) ∧ HO wr 23 32 A1 k c1 (cellsOf (hN S k)) ∧ NewA wzk A1 ∧ HB wr zk 91 #[.slice A1 k c1, .int .i64 0] ∧ HB wr zo 91 #[.slice none 0 0, .int .i64 0] ∧ Hid (RRAt wr g d (hS S k)) ∧ wzk.heap.size ≤ wr.heap.size) (fun iv _ => 5 - (intOf iv).toNat)
 case atStart => exact ⟨0, none, 0, Nat.zero_le _, Nat.zero_le _, rfl, Nat.le_refl _, hC2, ⟨Own.nil _ _ _⟩, newA_none _, hk2, ho2, h2, hs2⟩
 case round =>
  clear st2 h2 hk2 ho2 hC2 hs2
  obtain ⟨k, A1, c1, hkN, hk5, rfl, hkc, hC, hO, hA1, hzk, hzo1, hR, hszr⟩ := hrel
  obtain ⟨Ar, nr, cr, hrd⟩ := hR.out.blk
  have hsl := hS_le S k
  by_cases hgo : k < N ∧ (hS S k).e = false ∧ k ≤ 4
  · obtain ⟨hlt, hee, hle4⟩ := hgo
    have hltI : (k : Int) < N := by omega
    have hleI : (k : Int) ≤ 4 := by omega
    rw [hee] at hrd
    have ogA : OffA (only g) A1 := ⟨fun ad e h => by have h' : ad.block = g := h; have := hA1.out ad e; omega⟩
    have ozA : OffA (only zk) A1 := ⟨fun ad e h => by have h' : ad.block = zk := h; have := hA1.out ad e; omega⟩
    have kbH := run_oneHW (hS S k).hsh
    have orz : OffB (rowOf A1) zk := ⟨fun ⟨ad, e, h⟩ => by have := hA1.out ad e; omega⟩
    have oro : OffB (rowOf A1) zo := ⟨fun ⟨ad, e, h⟩ => by have := hA1.out ad e; omega⟩
    have hCr := hC
    have nR := hR
    clear hC hR
    go_wp2_with (first | ((with_reducible apply wpl_loadcellN); exact rfl; exact hrd; exact rfl) | ((with_reducible apply (wpl_guard (op := .load _ _))); exact rfl) | ((with_reducible apply (wpl_guard (op := .fieldAddr _ _ _))); exact rfl))
    refine wp_region_N ((rg3 g zk A1)) (by kernel_rfl) (fun wd _ _ => ?_)
    refine' tk 0 _ rfl (by kernel_rfl) (by kernel_rfl) (by kernel_rfl) (fun _ _ _ h => h) (yo (by rfl) fun w' _ => ?_) inferInstance ?_
    rotate_left
    · (go_simp; try with_reducible rfl)
    try simp only [Act.put, sA, sB, sC]
    refine' tk 2 _ rfl (by kernel_rfl) (by kernel_rfl) (by kernel_rfl) (fun _ _ _ h => h) (yo (by rfl) fun w' _ => ?_) inferInstance ?_
    rotate_left
    · (go_simp; try with_reducible rfl)
    try simp only [Act.put, sA, sB, sC]
    refine wpAnyH_ready (rs := [1, 3]) (by kernel_rfl) (by simp) (AllReadyH.cons rfl (fun K_ hK_ => ?_) (AllReadyH.cons rfl (fun K_ hK_ => ?_) AllReadyH.nil))
    focus
     rw [if_pos (by kernel_rfl)]
     refine wpr_of_list ?_
     ((with_reducible apply wpl_loadcellN); exact rfl; infer_instance; exact rfl)
     refine wpList_nil ?_
     unfold onlyN
     refine hK_.out _ _ inferInstance (fun _ => ?_)
     clear hK_ K_
     try simp only [Act.put, sA, sB, sC]
     refine goH (i := 3) (by kernel_rfl) rfl (fun K_ hK_ => ?_)
     go_simp
     refine (rHash_calls (nR.out.chg (stepN (w0 := wr)).chg (fun h => h) (fun h => h)) (by omega)).mono ?_
     rintro e w5 ⟨rfl, st5, h5⟩
     refine hK_.out _ _ inferInstance (fun _ => ?_)
     clear hK_ K_
     try simp only [Act.put, sA, sB, sC]
     refine goH (i := 4) (by kernel_rfl) rfl (fun K_ hK_ => ?_)
     rw [if_pos (by kernel_rfl)]
     refine wpr_of_list ?_
     ((with_reducible apply (stop_dst (dst := some 28))); (try simp only [Act.put, sA, sB, sC]); ((with_reducible apply (wpl_bslice (dst := some 28))); exact kbH _; intro zb wb _ _ _))
     refine wpList_nil ?_
     unfold onlyN
     refine hK_.out _ _ inferInstance (fun _ => ?_)
     clear hK_ K_
     try simp only [Act.put, sA, sB, sC]
     refine goH (i := 5) (by kernel_rfl) rfl (fun K_ hK_ => ?_)
     rw [if_pos (by kernel_rfl)]
     refine wpr_of_list ?_
     ((with_reducible apply wpl_appendH); exact rfl; exact rfl; infer_instance; infer_instance; infer_instance; omega; intro L2 lc2 wa _ _ hG hcap2)
     refine wpList_nil ?_
     unfold onlyN
     refine hK_.out _ _ inferInstance (fun _ => ?_)
     clear hK_ K_
     try simp only [Act.put, sA, sB, sC]
     refine' tk 6 _ rfl (by kernel_rfl) (by kernel_rfl) (by kernel_rfl) (fun _ _ _ h => h) (yo (by rfl) fun w' _ => ?_) inferInstance ?_
     rotate_left
     · (go_simp; try with_reducible rfl)
     try simp only [Act.put, sA, sB, sC]
     refine goH (i := 7) (by kernel_rfl) rfl (fun K_ hK_ => ?_)
     rw [if_pos (by kernel_rfl)]
     refine wpr_of_list ?_
     ((with_reducible apply wpl_storecell); exact rfl; exact rfl; infer_instance; exact rfl; (first | (with_reducible assumption) | omega | (focus (simp; done)) | (focus (simp; omega; done)) | decide); intro ws _ _)
     refine wpList_nil ?_
     unfold onlyN
     refine hK_.out _ _ inferInstance (fun _ => ?_)
     clear hK_ K_
     try simp only [Act.put]
     refine wpAnyH_done (by kernel_rfl) ?_ _
    rotate_left 1
    focus
     go_simp
     refine (rHash_calls (nR.out.chg (stepN (w0 := wr)).chg (fun h => h) (fun h => h)) (by omega)).mono ?_
     rintro e w5 ⟨rfl, st5, h5⟩
     refine hK_.out _ _ inferInstance (fun _ => ?_)
     clear hK_ K_
     try simp only [Act.put, sA, sB, sC]
     refine wpAnyH_ready (rs := [1, 4]) (by kernel_rfl) (by simp) (AllReadyH.cons rfl (fun K_ hK_ => ?_) (AllReadyH.cons rfl (fun K_ hK_ => ?_) AllReadyH.nil))
     focus
      rw [if_pos (by kernel_rfl)]
      refine wpr_of_list ?_
      ((with_reducible apply wpl_loadcellN); exact rfl; infer_instance; exact rfl)
      refine wpList_nil ?_
      unfold onlyN
      refine hK_.out _ _ inferInstance (fun _ => ?_)
      clear hK_ K_
      try simp only [Act.put, sA, sB, sC]
      refine goH (i := 4) (by kernel_rfl) rfl (fun K_ hK_ => ?_)
      rw [if_pos (by kernel_rfl)]
      refine wpr_of_list ?_
      ((with_reducible apply (stop_dst (dst := some 28))); (try simp only [Act.put, sA, sB, sC]); ((with_reducible apply (wpl_bslice (dst := some 28))); exact kbH _; intro zb wb _ _ _))
      refine wpList_nil ?_
      unfold onlyN
      refine hK_.out _ _ inferInstance (fun _ => ?_)
      clear hK_ K_
      try simp only [Act.put, sA, sB, sC]
      refine goH (i := 5) (by kernel_rfl) rfl (fun K_ hK_ => ?_)
      rw [if_pos (by kernel_rfl)]
      refine wpr_of_list ?_
      ((with_reducible apply wpl_appendH); exact rfl; exact rfl; infer_instance; infer_instance; infer_instance; omega; intro L2 lc2 wa _ _ hG hcap2)
      refine wpList_nil ?_
      unfold onlyN
      refine hK_.out _ _ inferInstance (fun _ => ?_)
      clear hK_ K_
      try simp only [Act.put, sA, sB, sC]
      refine' tk 6 _ rfl (by kernel_rfl) (by kernel_rfl) (by kernel_rfl) (fun _ _ _ h => h) (yo (by rfl) fun w' _ => ?_) inferInstance ?_
      rotate_left
      · (go_simp; try with_reducible rfl)
      try simp only [Act.put, sA, sB, sC]
      refine goH (i := 7) (by kernel_rfl) rfl (fun K_ hK_ => ?_)
      rw [if_pos (by kernel_rfl)]
      refine wpr_of_list ?_
      ((with_reducible apply wpl_storecell); exact rfl; exact rfl; infer_instance; exact rfl; (first | (with_reducible assumption) | omega | (focus (simp; done)) | (focus (simp; omega; done)) | decide); intro ws _ _)
      refine wpList_nil ?_
      unfold onlyN
      refine hK_.out _ _ inferInstance (fun _ => ?_)
      clear hK_ K_
      try simp only [Act.put]
      refine wpAnyH_done (by kernel_rfl) ?_ _
     rotate_left 1
     focus
      rw [if_pos (by kernel_rfl)]
      refine wpr_of_list ?_
      ((with_reducible apply (stop_dst (dst := some 28))); (try simp only [Act.put, sA, sB, sC]); ((with_reducible apply (wpl_bslice (dst := some 28))); exact kbH _; intro zb wb _ _ _))
      refine wpList_nil ?_
      unfold onlyN
      refine hK_.out _ _ inferInstance (fun _ => ?_)
      clear hK_ K_
      try simp only [Act.put, sA, sB, sC]
      refine goH (i := 1) (by kernel_rfl) rfl (fun K_ hK_ => ?_)
      rw [if_pos (by kernel_rfl)]
      refine wpr_of_list ?_
      ((with_reducible apply wpl_loadcellN); exact rfl; infer_instance; exact rfl)
      refine wpList_nil ?_
      unfold onlyN
      refine hK_.out _ _ inferInstance (fun _ => ?_)
      clear hK_ K_
      try simp only [Act.put, sA, sB, sC]
      refine goH (i := 5) (by kernel_rfl) rfl (fun K_ hK_ => ?_)
      rw [if_pos (by kernel_rfl)]
      refine wpr_of_list ?_
      ((with_reducible apply wpl_appendH); exact rfl; exact rfl; infer_instance; infer_instance; infer_instance; omega; intro L2 lc2 wa _ _ hG hcap2)
      refine wpList_nil ?_
      unfold onlyN
      refine hK_.out _ _ inferInstance (fun _ => ?_)
      clear hK_ K_
      try simp only [Act.put, sA, sB, sC]
      refine' tk 6 _ rfl (by kernel_rfl) (by kernel_rfl) (by kernel_rfl) (fun _ _ _ h => h) (yo (by rfl) fun w' _ => ?_) inferInstance ?_
      rotate_left
      · (go_simp; try with_reducible rfl)
      try simp only [Act.put, sA, sB, sC]
      refine goH (i := 7) (by kernel_rfl) rfl (fun K_ hK_ => ?_)
      rw [if_pos (by kernel_rfl)]
      refine wpr_of_list ?_
      ((with_reducible apply wpl_storecell); exact rfl; exact rfl; infer_instance; exact rfl; (first | (with_reducible assumption) | omega | (focus (simp; done)) | (focus (simp; omega; done)) | decide); intro ws _ _)
      refine wpList_nil ?_
      unfold onlyN
      refine hK_.out _ _ inferInstance (fun _ => ?_)
      clear hK_ K_
      try simp only [Act.put]
      refine wpAnyH_done (by kernel_rfl) ?_ _
     rotate_left 1
    rotate_left 2
    all_goals
     have HNX : Hid (hN S k ++ [(hS S k).hsh] = hN S (k + 1)) := Lib.hid rfl
     have hcA : Chg (rowOf A1) w5 wa := (inferInstance : Ch (rowOf A1) w5 wa).out
     have hcS : Chg (only zk) wa ws := (inferInstance : Step (only zk) wa ws).chg
     have hc5 : Chg (only g) wr w5 := (inferInstance : Ch (only g) wr w5).out
     have hA2 : NewA wzk L2 := newA_grew hG hA1 (by
      have h1 := (inferInstance : SzLe w5 wb).out
      have h2 := hc5.size
      omega)
     go_wp2_with fail
     refine ⟨⟨k + 1, L2, lc2, by omega, by omega, by go_num, hcap2, Lib.hid ?_, ?_, hA2, inferInstance, inferInstance, Lib.hid ?_, ?_⟩, by simp [intOf]; omega⟩
     · exact ((hCr.out.trans hc5 (fun _ _ h => .inl h)).trans hcA (fun x hx ⟨ad, e, h⟩ => by have := hA1.out ad e; omega)).trans hcS (fun _ _ h => .inr h)
     · rw [← HNX.out]; infer_instance
     · exact (h5.out.far hcA (m := w.heap.size) (fun x ⟨ad, e, h⟩ => by rw [← h]; have := hA1.out ad e; omega) hgl (fun h => hSd (hS_ne (k := k + 1) h))).far hcS (m := w.heap.size) (fun x h => by have h' : x = zk := h; omega) hgl (fun h => hSd (hS_ne (k := k + 1) h))
     · have h1 := (inferInstance : SzLe w5 wb).out
       have h2 := hc5.size
       have h3 := (inferInstance : SzLe wb ws).out
       omega
  · have HGQ : Hid (GotQ s (hN S k) (hS S k).num.1 (hS S k).num.2) := Lib.hid (by
      refine ⟨k, hk5, by rw [← HN.out]; exact hkN, ?_, by rw [HS.out], by rw [HS.out], by rw [HS.out]⟩
      rw [← HN.out, ← HS.out]
      cases hee : (hS S k).e
      · by_cases hlt : k < N
        · exact .inr (.inl (by have : ¬ k ≤ 4 := fun h => hgo ⟨hlt, hee, h⟩; omega))
        · exact .inl (by omega)
      · exact .inr (.inr rfl))
    have hcase : (¬ k < N) ∨ (k < N ∧ (hS S k).e = true) ∨ (k < N ∧ (hS S k).e = false ∧ ¬ k ≤ 4) := by
     by_cases hlt : k < N
     · cases hee : (hS S k).e
       · exact .inr (.inr ⟨hlt, rfl, fun h => hgo ⟨hlt, hee, h⟩⟩)
       · exact .inr (.inl ⟨hlt, rfl⟩)
     · exact .inl hlt
    obtain ⟨nd, hnd⟩ : ∃ nd, nd = (hS S k).num.1 := ⟨_, rfl⟩
    have HND := Lib.hid hnd
    have hCr := hC
    have nR := hR
    clear hgo hC hR hnd
    rcases hcase with hlt | ⟨hlt, hee⟩ | ⟨hlt, hee, hle4⟩
    focus
     have hltI : ¬ (k : Int) < N := by omega
     clear hlt
     go_wp2_with fail
     refine (rrNum_calls g d (hS S k) wr nR.out (by omega)).mono ?_
    rotate_left
    focus
     have hltI : (k : Int) < N := by omega
     rw [hee] at hrd
     clear hlt hee
     go_wp2_with (first | ((with_reducible apply wpl_loadcellN); exact rfl; exact hrd; exact rfl) | ((with_reducible apply (wpl_guard (op := .load _ _))); exact rfl) | ((with_reducible apply (wpl_guard (op := .fieldAddr _ _ _))); exact rfl))
     refine (rrNum_calls g d (hS S k) wr nR.out (by omega)).mono ?_
    rotate_left
    focus
     have hltI : (k : Int) < N := by omega
     have hleI : ¬ (k : Int) ≤ 4 := by omega
     rw [hee] at hrd
     clear hlt hee hle4
     go_wp2_with (first | ((with_reducible apply wpl_loadcellN); exact rfl; exact hrd; exact rfl) | ((with_reducible apply (wpl_guard (op := .load _ _))); exact rfl) | ((with_reducible apply (wpl_guard (op := .fieldAddr _ _ _))); exact rfl))
     refine (rrNum_calls g d (hS S k) wr nR.out (by omega)).mono ?_
    rotate_left
    all_goals
     rw [← HND.out]
     rintro e w7 ⟨rfl, h7, c7⟩
     have st7 : Step (only g) wr w7 := ⟨c7.out⟩
     have hzk7 : HB w7 zk 91 #[.slice A1 k c1, .int .i64 0] := inferInstance
     have hzo7 : HB w7 zo 91 #[.slice none 0 0, .int .i64 0] := inferInstance
     have hO7 : Rd w7 A1 (cellsOf (hN S k)) := (hO.out.rd).chg c7.out (fun _ ad e h => by have h' : ad.block = g := h; have := hA1.out ad e; omega)
     have HO7 := Lib.hid hO7
     have hkey : (RowC.enc (⟨A1, k, c1, hN S k, (nd : Int)⟩ : KR)).toArray = #[.slice A1 k c1, .int .i64 (nd : Int)] := rfl
     have HKE := Lib.hid hkey
     clear hO7 hkey c7
     go_wp2_with (first | ((with_reducible apply wpl_loadrow); exact rfl; infer_instance; infer_instance; (first | (with_reducible assumption) | (with_reducible exact H32.size _) | kernel_rfl)) | ((with_reducible apply wpl_storerow); exact rfl; exact rfl; infer_instance; infer_instance; (first | (with_reducible assumption) | (with_reducible exact H32.size _) | kernel_rfl); (first | (with_reducible assumption) | (with_reducible exact H32.size _) | kernel_rfl); (first | (with_reducible exact u8s_one _) | (with_reducible assumption) | kernel_rfl); intro ws _ _) | ((with_reducible apply wpl_storecell); exact rfl; exact rfl; infer_instance; exact rfl; (first | (with_reducible assumption) | omega | (focus (simp; done)) | (focus (simp; omega; done)) | decide); intro ws _ _))
     have hcF : Chg (gz2 zk zo) w7 ws := (inferInstance : Ch (gz2 zk zo) w7 ws).out
     refine ret_row rfl rfl (n := 2) rfl rfl ⟨⟨A1, k, c1, hN S k, (nd : Int)⟩, nd, (hS S k).num.2, ?_, ⟨?_⟩, Lib.hid ?_, Lib.hid ⟨?_, rfl⟩, Lib.hid ⟨⟨?_, hN_len S k, hkc, by show k ≤ 1000; omega⟩, ⟨fun ad e => Nat.le_trans hszk (hA1.out ad e)⟩⟩⟩
     · rfl
     · exact ((hCr.out.mono (T := only g) (fun x hx h => by
         rcases h with h | h
         · exact h
         · omega)).trans st7.chg (fun _ _ h => h)).trans hcF (fun x hx h => by rcases h with h | h <;> omega)
     · exact h7.out.far hcF (m := w.heap.size) (fun x h => by rcases h with h | h <;> omega) hgl (fun h => hSd (hS_ne (k := k) (num_ne h)))
     · rw [HND.out]; exact HGQ.out
     · exact HO7.out.chg hcF (fun _ ad e h => by
         have h1 := hA1.out ad e
         rcases h with h | h <;> omega)
end Go.Proofs.YtgjnjhhhbkidbaaGreat
end
section
open Go Go.RowKit
namespace Go.Proofs.YtgjnjhhhbkidbaaGreat
theorem GotQ.le {s s' : RS} {l : List H32} {need : Nat} (h : GotQ s l need s') : s'.b.length ≤ s.b.length := by
 obtain ⟨j, _, _, _, _, _, rfl⟩ := h
 exact Nat.le_trans (RS.num_le _) (Nat.le_trans (hS_le _ _) (RS.num_le s))
theorem HB.row_eqR {w : World} {g : Nat} {t : TypeId} {cs ds : Array Value} (h : HB w g t cs) (e : cs = ds) : HB w g t ds := e ▸ h
theorem Nw.hrR {w w' : World} (n : Nw w w') {A : Option Addr} {vs : List Value} (h : Rd w A vs) : HR w' A vs := HR.step nowhere w w' A _ (h := ⟨h⟩) (s := ⟨n.out⟩)
end Go.Proofs.YtgjnjhhhbkidbaaGreat
end
