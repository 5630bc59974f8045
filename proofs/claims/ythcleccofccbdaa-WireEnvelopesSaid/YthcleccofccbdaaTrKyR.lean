/- KyR -/
import Derived.Test.YthcleccofccbdaaTrKyQ
open Go Go.RowKit
namespace Go.Proofs.Ythcleccofccbdaa
def g3 (g z : Nat) (A : Option Addr) : Nat → Prop := fun x => x = g ∨ x = z ∨ rowOf A x
instance (w : World) (g z : Nat) (A : Option Addr) : Sub w (only g) (g3 g z A) := ⟨fun _ _ h => .inl h⟩
instance (w : World) (g z : Nat) (A : Option Addr) : Sub w (only z) (g3 g z A) := ⟨fun _ _ h => .inr (.inl h)⟩
instance (w : World) (g z : Nat) (A : Option Addr) : Sub w (rowOf A) (g3 g z A) := ⟨fun _ _ h => .inr (.inr h)⟩
instance OffB.g3_ (g z : Nat) (A : Option Addr) (y : Nat) [a : OffB (only g) y] [b : OffB (only z) y] [c : OffB (rowOf A) y] : OffB (g3 g z A) y := ⟨fun h => by
  rcases h with h | h | h
  · exact a.out h
  · exact b.out h
  · exact c.out h⟩
instance OffA.g3_ (g z : Nat) (A B : Option Addr) [a : OffA (only g) B] [b : OffA (only z) B] [c : OffA (rowOf A) B] : OffA (g3 g z A) B := ⟨fun ad e h => by
  rcases h with h | h | h
  · exact a.out ad e h
  · exact b.out ad e h
  · exact c.out ad e h⟩
instance (priority := 700) OffA.ofB (z : Nat) (A : Option Addr) [o : OffB (rowOf A) z] : OffA (only z) A := ⟨fun ad e h => o.out ⟨ad, e, h⟩⟩
theorem RRAt.kat_ (w : World) (z : Nat) {A : Option Addr} {n c : Nat} {b : List UInt8} (hb : HB w z 120 #[.slice A n c, .bool false]) (hr : Rd w A (bs b)) (hn : b.length = n) (hc : n ≤ c) (hz : b ≠ [] → ∀ ad, A = some ad → ad.block ≠ z) : ∃ d, RRAt w z d ⟨b, false⟩ ∧ (b ≠ [] → ∃ ad, A = some ad ∧ ad.block = d) := by
  by_cases h0 : b = []
  · exact ⟨z + 1, ⟨⟨A, n, c, hn.symm, hc, hb.out, hr, fun ad e h => absurd h0 h⟩, by omega, fun h => by cases h⟩, fun h => absurd h0 h⟩
  · obtain ⟨ad, e, _⟩ := hr.lt (by rw [bs_length]; exact List.length_pos_iff.2 h0)
    exact ⟨ad.block, ⟨⟨A, n, c, hn.symm, hc, hb.out, hr, fun ad' e' _ => by rw [e] at e'; injection e' with e'; rw [e']⟩, hz h0 ad e, fun h => by cases h⟩, fun _ => ⟨ad, e, rfl⟩⟩
theorem dS_ne {b : List UInt8} {k : Nat} (h : ((dS1 b).hAt k).b ≠ []) : b ≠ [] := fun h0 => by
  subst h0
  have h1 := (dS1 []).hAt_le k
  have h2 := dS1_le []
  exact h (List.eq_nil_of_length_eq_zero (by simp only [List.length_nil] at h2; omega))
theorem dP_ne {b : List UInt8} {k : Nat} (h : (((dS1 b).hAt 36).hAt k).b ≠ []) : b ≠ [] := fun h0 => by
  have h1 := ((dS1 b).hAt 36).hAt_le k
  refine dS_ne (b := b) (k := 36) (fun h2 => h (List.eq_nil_of_length_eq_zero ?_)) h0
  rw [h2] at h1
  simpa using h1
set_option maxRecDepth 100000 in
set_option maxHeartbeats 3200000 in
theorem rkdecode_calls {A : Option Addr} {n c : Nat} {b : List UInt8} {w : World} [hr : HR w A (bs b)] (hl : b.length = n) (hcap : n ≤ c) (hn : n ≤ 1000000000) :
    Calls Try.prog 77 #[.slice A n c] w (KDecPost b w) := by
  have kbR : ∀ w, (Instr.build 120 #[(0, .slice A n c)]).run Try.prog w = .ok (.agg #[.slice A n c, .bool false]) w := fun _ => by kernel_rfl
  have kbS : ∀ (u : Int) w, (Instr.build 123 #[(0, .int .i64 u)]).run Try.prog w = .ok (.agg #[.int .i64 u, .slice none 0 0, .slice none 0 0]) w := fun _ _ => by kernel_rfl
  have kb0 : ∀ w, (Instr.build 123 #[]).run Try.prog w = .ok (.agg #[.int .i64 0, .slice none 0 0, .slice none 0 0]) w := fun _ => by kernel_rfl
  obtain ⟨lf, hlf⟩ : ∃ lf, lf = dLeaf b := ⟨_, rfl⟩
  have HLF := Lib.hid hlf
  have HLE := Lib.hid hl
  have HRR := Lib.hid hr.out
  obtain ⟨R, hR⟩ : ∃ R, R = KDecPost b w := ⟨_, rfl⟩
  have HRd := Lib.hid hR
  rw [← hR]
  clear hlf hR
  go_enter Try.func77, Try.ntmps77
  go_wp2_with (first | go_skip | ((with_reducible apply wpl_build); (exact kbR _)) | ((with_reducible apply (wpl_alloc (dst := some 2))); intro zo wzo _ _ _) | ((with_reducible apply (wpl_box_agg (dst := some 2))); (exact rfl); intro zo wzo _ _ _) | ((with_reducible apply (wpl_box_int (dst := some 2))); (exact rfl); intro zo wzo _ _ _) | ((with_reducible apply (wpl_box_slice (dst := some 2))); (exact rfl); intro zo wzo _ _ _) | ((with_reducible apply (wpl_box_str (dst := some 2))); (exact rfl); intro zo wzo _ _ _) | ((with_reducible apply (wpl_box_bool (dst := some 2))); (exact rfl); intro zo wzo _ _ _) | ((with_reducible apply (wpl_box_ptr (dst := some 2))); (exact rfl); intro zo wzo _ _ _) | ((with_reducible apply (wpl_alloc (dst := some 10))); intro zr wzr _ _ _) | ((with_reducible apply (wpl_box_agg (dst := some 10))); (exact rfl); intro zr wzr _ _ _) | ((with_reducible apply (wpl_box_int (dst := some 10))); (exact rfl); intro zr wzr _ _ _) | ((with_reducible apply (wpl_box_slice (dst := some 10))); (exact rfl); intro zr wzr _ _ _) | ((with_reducible apply (wpl_box_str (dst := some 10))); (exact rfl); intro zr wzr _ _ _) | ((with_reducible apply (wpl_box_bool (dst := some 10))); (exact rfl); intro zr wzr _ _ _) | ((with_reducible apply (wpl_box_ptr (dst := some 10))); (exact rfl); intro zr wzr _ _ _) | ((with_reducible apply wpl_alloc); intro z wz _ _ _) | ((with_reducible apply wpl_box_agg); (exact rfl); intro z wz _ _ _) | ((with_reducible apply wpl_box_int); (exact rfl); intro z wz _ _ _) | ((with_reducible apply wpl_box_slice); (exact rfl); intro z wz _ _ _) | ((with_reducible apply wpl_box_str); (exact rfl); intro z wz _ _ _) | ((with_reducible apply wpl_box_bool); (exact rfl); intro z wz _ _ _) | ((with_reducible apply wpl_box_ptr); (exact rfl); intro z wz _ _ _) | ((with_reducible apply (wpl_guard (op := .load _ _))); (exact rfl)) | ((with_reducible apply wpl_loadrow); (exact rfl); infer_instance; infer_instance; (first | (with_reducible assumption) | (with_reducible exact H32.size _) | kernel_rfl)) | ((with_reducible apply wpl_loadcellN); (exact rfl); infer_instance; (exact rfl)) | ((with_reducible apply wpl_storerow); (exact rfl); (exact rfl); infer_instance; infer_instance; (first | (with_reducible assumption) | (with_reducible exact H32.size _) | kernel_rfl); (first | (with_reducible assumption) | (with_reducible exact H32.size _) | kernel_rfl); (first | (with_reducible exact u8s_one _) | (with_reducible assumption) | kernel_rfl); intro ws _ _) | ((with_reducible apply wpl_storecell); (exact rfl); (exact rfl); infer_instance; (exact rfl); (first | (with_reducible assumption) | omega | (focus (simp; done)) | (focus (simp; omega; done)) | decide); intro ws _ _))
  have st0 : Step nowhere w wzr := stepN
  have hzr : w.heap.size ≤ zr := (NewA.monoS (w0 := w) (NewA.of_born (z := zr) 0)).out ⟨zr, 0, none⟩ rfl
  have hNr : NewB w zr := ⟨hzr⟩
  have hzo : w.heap.size ≤ zo := (NewA.monoS (w0 := w) (NewA.of_born (z := zo) 0)).out ⟨zo, 0, none⟩ rfl
  have ozo : OffB (only zr) zo := inferInstance
  obtain ⟨d, hRR, hd0⟩ := RRAt.kat_ wzr zr (inferInstance : HB wzr zr 120 #[.slice A n c, .bool false]) (HRR.out.later st0.chg) HLE.out hcap (fun hne ad e h => by
    have h1 := rd_lt HRR.out (by simpa [bs] using hne) e
    omega)
  have hdl : b ≠ [] → d < w.heap.size := fun hne => by
    obtain ⟨ad, e, h⟩ := hd0 hne
    rw [← h]
    exact rd_lt HRR.out (by simpa [bs] using hne) e
  have HRR0 := Lib.hid hRR
  clear hRR hd0
  go_wp2_with fail
  refine (rrNum_calls zr d _ wzr HRR0.out (by show b.length ≤ _; have := HLE.out; omega)).mono ?_
  rintro e w3 ⟨rfl, h3, c3⟩
  have st3 : Step (only zr) wzr w3 := ⟨c3.out⟩
  have n3 : Nw w w3 := inferInstance
  have e3 : (((⟨b, false⟩ : RS).num.1 : Nat) : Int) = lf := by rw [HLF.out]; rfl
  rw [e3]
  go_wp2_with (first | go_skip | ((with_reducible apply wpl_build); (exact kbS _ _)) | ((with_reducible apply (wpl_alloc (dst := some 5))); intro zs wzs _ _ _) | ((with_reducible apply (wpl_box_agg (dst := some 5))); (exact rfl); intro zs wzs _ _ _) | ((with_reducible apply (wpl_box_int (dst := some 5))); (exact rfl); intro zs wzs _ _ _) | ((with_reducible apply (wpl_box_slice (dst := some 5))); (exact rfl); intro zs wzs _ _ _) | ((with_reducible apply (wpl_box_str (dst := some 5))); (exact rfl); intro zs wzs _ _ _) | ((with_reducible apply (wpl_box_bool (dst := some 5))); (exact rfl); intro zs wzs _ _ _) | ((with_reducible apply (wpl_box_ptr (dst := some 5))); (exact rfl); intro zs wzs _ _ _) | ((with_reducible apply wpl_alloc); intro z wz _ _ _) | ((with_reducible apply wpl_box_agg); (exact rfl); intro z wz _ _ _) | ((with_reducible apply wpl_box_int); (exact rfl); intro z wz _ _ _) | ((with_reducible apply wpl_box_slice); (exact rfl); intro z wz _ _ _) | ((with_reducible apply wpl_box_str); (exact rfl); intro z wz _ _ _) | ((with_reducible apply wpl_box_bool); (exact rfl); intro z wz _ _ _) | ((with_reducible apply wpl_box_ptr); (exact rfl); intro z wz _ _ _) | ((with_reducible apply (wpl_guard (op := .load _ _))); (exact rfl)) | ((with_reducible apply wpl_loadrow); (exact rfl); infer_instance; infer_instance; (first | (with_reducible assumption) | (with_reducible exact H32.size _) | kernel_rfl)) | ((with_reducible apply wpl_loadcellN); (exact rfl); infer_instance; (exact rfl)) | ((with_reducible apply wpl_storerow); (exact rfl); (exact rfl); infer_instance; infer_instance; (first | (with_reducible assumption) | (with_reducible exact H32.size _) | kernel_rfl); (first | (with_reducible assumption) | (with_reducible exact H32.size _) | kernel_rfl); (first | (with_reducible exact u8s_one _) | (with_reducible assumption) | kernel_rfl); intro ws _ _) | ((with_reducible apply wpl_storecell); (exact rfl); (exact rfl); infer_instance; (exact rfl); (first | (with_reducible assumption) | omega | (focus (simp; done)) | (focus (simp; omega; done)) | decide); intro ws _ _))
  have stz : Step nowhere w3 ws := stepN
  have hzs : w.heap.size ≤ zs := (NewA.monoS (w0 := w) (NewA.of_born (z := zs) 0)).out ⟨zs, 0, none⟩ rfl
  have hbs : HB ws zs 123 #[.int .i64 lf, .slice none 0 0, .slice none 0 0] := inferInstance
  have hbo : HB ws zo 123 #[.int .i64 0, .slice none 0 0, .slice none 0 0] := inferInstance
  have hrl := h3.out.lt
  have ors : OffB (only zr) zs := ⟨fun e => by
    have e' : zs = zr := e
    have := (inferInstance : Born w3 zs).eq
    omega⟩
  have oso : OffB (only zs) zo := inferInstance
  have osr : ¬ zr = zs := fun e => ors.out (show zs = zr from e.symm)
  have HR4 : Hid (RRAt ws zr d ((dS1 b).hAt 0)) := Lib.hid (h3.out.chg stz.chg (fun h => h) (fun h => h))
  have hstw : Step nowhere w ws := stepN
  clear h3 c3 e3
  go_loopw [6] (fun iv wr => ∃ (k : Nat) (L : Option Addr) (lc : Nat), k ≤ 36 ∧ iv = .int .i64 (k : Int) ∧ Step nowhere w wr ∧ Hid (RRAt wr zr d ((dS1 b).hAt k)) ∧ HB wr zs 123 #[.int .i64 lf, .slice L k lc, .slice none 0 0] ∧ HB wr zo 123 #[.int .i64 0, .slice none 0 0, .slice none 0 0] ∧ HO wr 78 32 L k lc (cellsOf ((dS1 b).hs k)) ∧ NewA w L ∧ OffB (rowOf L) zs ∧ OffB (rowOf L) zo ∧ (∀ ad, L = some ad → ad.block ≠ zr)) (fun iv _ => 36 - (intOf iv).toNat)
  case atStart => exact ⟨0, none, 0, by decide, rfl, hstw, HR4, hbs, hbo, ⟨Own.nil _ _ _⟩, NewA.of_none _, inferInstance, inferInstance, fun ad e => by cases e⟩
  case round =>
    clear HR4 hbs hbo hstw stz
    obtain ⟨k, L, lc, hk, rfl, _, HR4, _, _, _, hNL, oLs, oLo, hLr⟩ := hrel
    have st : Step nowhere w wr := inferInstance
    have nw : Nw w wr := ⟨st.chg⟩
    have oLr : OffA (only zr) L := ⟨fun ad e h => hLr ad e h⟩
    by_cases hlt : k < 36
    · have hltI : (k : Int) < 36 := by omega
      have hle := (dS1 b).hAt_le k
      have hle1 := dS1_le b
      have kb3 := run_oneH ((dS1 b).hAt k).hash
      go_wp2_with (first | go_skip | ((with_reducible apply wpl_alloc); intro z wz _ _ _) | ((with_reducible apply wpl_box_agg); (exact rfl); intro z wz _ _ _) | ((with_reducible apply wpl_box_int); (exact rfl); intro z wz _ _ _) | ((with_reducible apply wpl_box_slice); (exact rfl); intro z wz _ _ _) | ((with_reducible apply wpl_box_str); (exact rfl); intro z wz _ _ _) | ((with_reducible apply wpl_box_bool); (exact rfl); intro z wz _ _ _) | ((with_reducible apply wpl_box_ptr); (exact rfl); intro z wz _ _ _) | ((with_reducible apply (wpl_guard (op := .load _ _))); (exact rfl)) | ((with_reducible apply wpl_loadrow); (exact rfl); infer_instance; infer_instance; (first | (with_reducible assumption) | (with_reducible exact H32.size _) | kernel_rfl)) | ((with_reducible apply wpl_loadcellN); (exact rfl); infer_instance; (exact rfl)) | ((with_reducible apply wpl_storerow); (exact rfl); (exact rfl); infer_instance; infer_instance; (first | (with_reducible assumption) | (with_reducible exact H32.size _) | kernel_rfl); (first | (with_reducible assumption) | (with_reducible exact H32.size _) | kernel_rfl); (first | (with_reducible exact u8s_one _) | (with_reducible assumption) | kernel_rfl); intro ws _ _) | ((with_reducible apply wpl_storecell); (exact rfl); (exact rfl); infer_instance; (exact rfl); (first | (with_reducible assumption) | omega | (focus (simp; done)) | (focus (simp; omega; done)) | decide); intro ws _ _))
      refine wp_region_N ((g3 zr zs L)) (by kernel_rfl) (fun wd _ _ => ?_)
      refine' takeH (i := 0) (v := _) rfl (by kernel_rfl) (by kernel_rfl) (by kernel_rfl) (fun _ _ _ h => h) (yields_of (by rfl) (fun w' _ => ?_)) inferInstance ?_
      rotate_left
      · (go_simp; try with_reducible rfl)
      try simp only [Act.put, sA]; try simp only [sB, sC]
      refine' takeH (i := 2) (v := _) rfl (by kernel_rfl) (by kernel_rfl) (by kernel_rfl) (fun _ _ _ h => h) (yields_of (by rfl) (fun w' _ => ?_)) inferInstance ?_
      rotate_left
      · (go_simp; try with_reducible rfl)
      try simp only [Act.put, sA]; try simp only [sB, sC]
      refine wpAnyH_ready (rs := [1, 3]) (by kernel_rfl) (by simp) (AllReadyH.cons rfl (fun K_ hK_ => ?br1_1) (AllReadyH.cons rfl (fun K_ hK_ => ?br1_3) AllReadyH.nil))
      case' br1_1 =>
        rw [if_pos (by kernel_rfl)]
        refine wpr_of_list ?_
        (first | ((with_reducible apply (stop_dst (dst := some 22))); (try simp only [Act.put, sA, sB, sC]); ((with_reducible apply (wpl_bslice (dst := some 22))); (exact kb3 _); intro zb wb _ _ _)) | ((with_reducible apply wpl_appendH); (exact rfl); (exact rfl); infer_instance; infer_instance; infer_instance; omega; intro L2 lc2 wa _ _ hG hcap2) | ((with_reducible apply wpl_loadrow); (exact rfl); infer_instance; infer_instance; (first | (with_reducible assumption) | (with_reducible exact H32.size _) | kernel_rfl)) | ((with_reducible apply wpl_loadcellN); (exact rfl); infer_instance; (exact rfl)) | ((with_reducible apply (wpl_loadhash (t := 78))); (exact rfl); infer_instance; infer_instance; (first | (with_reducible assumption) | omega)) | ((with_reducible apply (wpl_loadbyteH (t := 5))); (exact rfl); infer_instance; (first | (with_reducible assumption) | omega); (first | (with_reducible assumption) | omega)) | ((with_reducible apply (wpl_loadint (t := 3))); (exact rfl); infer_instance; infer_instance; (first | (with_reducible assumption) | omega)) | ((with_reducible apply (wpl_loadbyte (t := 5))); (exact rfl); infer_instance; infer_instance; (first | (with_reducible assumption) | omega)))
        refine wpList_nil ?_
        unfold onlyN
        refine hK_.out _ _ inferInstance (fun _ => ?_)
        clear hK_ K_
        try simp only [Act.put, sA]; try simp only [sB, sC]
        refine goH (i := 3) (by kernel_rfl) rfl (fun K_ hK_ => ?_)
        go_simp
        refine (rhash_calls (HR4.out.chg (stepN (w0 := wr)).chg (fun h => h) (fun h => h)) (by have := HLE.out; omega)).mono ?_
        rintro e w5 ⟨rfl, _, h5⟩
        refine hK_.out _ _ inferInstance (fun _ => ?_)
        clear hK_ K_
        try simp only [Act.put, sA]; try simp only [sB, sC]
        refine goH (i := 4) (by kernel_rfl) rfl (fun K_ hK_ => ?_)
        rw [if_pos (by kernel_rfl)]
        refine wpr_of_list ?_
        (first | ((with_reducible apply (stop_dst (dst := some 22))); (try simp only [Act.put, sA, sB, sC]); ((with_reducible apply (wpl_bslice (dst := some 22))); (exact kb3 _); intro zb wb _ _ _)) | ((with_reducible apply wpl_appendH); (exact rfl); (exact rfl); infer_instance; infer_instance; infer_instance; omega; intro L2 lc2 wa _ _ hG hcap2))
        refine wpList_nil ?_
        unfold onlyN
        refine hK_.out _ _ inferInstance (fun _ => ?_)
        clear hK_ K_
        try simp only [Act.put, sA]; try simp only [sB, sC]
        refine goH (i := 5) (by kernel_rfl) rfl (fun K_ hK_ => ?_)
        rw [if_pos (by kernel_rfl)]
        refine wpr_of_list ?_
        (first | ((with_reducible apply (stop_dst (dst := some 22))); (try simp only [Act.put, sA, sB, sC]); ((with_reducible apply (wpl_bslice (dst := some 22))); (exact kb3 _); intro zb wb _ _ _)) | ((with_reducible apply wpl_appendH); (exact rfl); (exact rfl); infer_instance; infer_instance; infer_instance; omega; intro L2 lc2 wa _ _ hG hcap2) | ((with_reducible apply wpl_appendB); (exact rfl); (exact rfl); infer_instance; (first | exact inferInstance | exact ⟨Own.nil _ _ _⟩); infer_instance; (first | (with_reducible assumption) | (with_reducible exact H32.len _) | (focus (simp; done)) | omega); (first | (with_reducible assumption) | omega); intro A' c' wa _ _ _ hcap) | ((with_reducible apply wpl_appendH); (exact rfl); (exact rfl); infer_instance; (first | exact inferInstance | exact ⟨Own.nil _ _ _⟩); infer_instance; (first | (with_reducible assumption) | omega); intro A' c' wa _ _ _ hcap) | ((with_reducible apply (wpl_appendR (α := H32))); (exact rfl); (exact rfl); infer_instance; (first | exact inferInstance | exact ⟨Own.nil _ _ _⟩); infer_instance; (exact rfl); (first | (with_reducible assumption) | (with_reducible exact H32.len _) | (focus (simp; done)) | omega); (first | (with_reducible assumption) | omega); (decide); (decide); intro A' c' wa _ _ _ hcap))
        refine wpList_nil ?_
        unfold onlyN
        refine hK_.out _ _ inferInstance (fun _ => ?_)
        clear hK_ K_
        try simp only [Act.put, sA]; try simp only [sB, sC]
        refine' takeH (i := 6) (v := _) rfl (by kernel_rfl) (by kernel_rfl) (by kernel_rfl) (fun _ _ _ h => h) (yields_of (by rfl) (fun w' _ => ?_)) inferInstance ?_
        rotate_left
        · (go_simp; try with_reducible rfl)
        try simp only [Act.put, sA]; try simp only [sB, sC]
        refine goH (i := 7) (by kernel_rfl) rfl (fun K_ hK_ => ?_)
        rw [if_pos (by kernel_rfl)]
        refine wpr_of_list ?_
        (first | ((with_reducible apply (stop_dst (dst := some 22))); (try simp only [Act.put, sA, sB, sC]); ((with_reducible apply (wpl_bslice (dst := some 22))); (exact kb3 _); intro zb wb _ _ _)) | ((with_reducible apply wpl_appendH); (exact rfl); (exact rfl); infer_instance; infer_instance; infer_instance; omega; intro L2 lc2 wa _ _ hG hcap2) | ((with_reducible apply wpl_storerow); (exact rfl); (exact rfl); infer_instance; infer_instance; (first | (with_reducible assumption) | (with_reducible exact H32.size _) | kernel_rfl); (first | (with_reducible assumption) | (with_reducible exact H32.size _) | kernel_rfl); (first | (with_reducible exact u8s_one _) | (with_reducible assumption) | kernel_rfl); intro ws _ _) | ((with_reducible apply wpl_storecell); (exact rfl); (exact rfl); infer_instance; (exact rfl); (first | (with_reducible assumption) | omega | (focus (simp; done)) | (focus (simp; omega; done)) | decide); intro ws _ _) | ((with_reducible apply (wpl_storehash (t := 78))); (exact rfl); (exact rfl); infer_instance; infer_instance; (first | (with_reducible assumption) | omega | (focus (simp; done)) | (focus (simp; omega; done)) | decide); intro ws _ _) | ((with_reducible apply (wpl_storebyteH (t := 5))); (exact rfl); (exact rfl); infer_instance; (first | (with_reducible assumption) | omega); (first | (with_reducible assumption) | omega); (first | (constructor <;> omega) | exact xor_u8_in _ _); intro ws _ _) | ((with_reducible apply (wpl_storeint (t := 3))); (exact rfl); (exact rfl); infer_instance; (first | (with_reducible assumption) | omega); intro ws _ _) | ((with_reducible apply (wpl_storebyte (t := 5))); (exact rfl); (exact rfl); infer_instance; (first | (with_reducible assumption) | omega | (focus (simp; done)) | (focus (simp; omega; done)) | decide); (constructor <;> omega); intro ws _ _))
        refine wpList_nil ?_
        unfold onlyN
        refine hK_.out _ _ inferInstance (fun _ => ?_)
        clear hK_ K_
        try simp only [Act.put]
        refine wpAnyH_done (by kernel_rfl) ?_ _
      case' br1_3 =>
        go_simp
        refine (rhash_calls (HR4.out.chg (stepN (w0 := wr)).chg (fun h => h) (fun h => h)) (by have := HLE.out; omega)).mono ?_
        rintro e w5 ⟨rfl, _, h5⟩
        refine hK_.out _ _ inferInstance (fun _ => ?_)
        clear hK_ K_
        try simp only [Act.put, sA]; try simp only [sB, sC]
        refine wpAnyH_ready (rs := [1, 4]) (by kernel_rfl) (by simp) (AllReadyH.cons rfl (fun K_ hK_ => ?br2_1) (AllReadyH.cons rfl (fun K_ hK_ => ?br2_4) AllReadyH.nil))
        case' br2_1 =>
          rw [if_pos (by kernel_rfl)]
          refine wpr_of_list ?_
          (first | ((with_reducible apply (stop_dst (dst := some 22))); (try simp only [Act.put, sA, sB, sC]); ((with_reducible apply (wpl_bslice (dst := some 22))); (exact kb3 _); intro zb wb _ _ _)) | ((with_reducible apply wpl_appendH); (exact rfl); (exact rfl); infer_instance; infer_instance; infer_instance; omega; intro L2 lc2 wa _ _ hG hcap2) | ((with_reducible apply wpl_loadrow); (exact rfl); infer_instance; infer_instance; (first | (with_reducible assumption) | (with_reducible exact H32.size _) | kernel_rfl)) | ((with_reducible apply wpl_loadcellN); (exact rfl); infer_instance; (exact rfl)) | ((with_reducible apply (wpl_loadhash (t := 78))); (exact rfl); infer_instance; infer_instance; (first | (with_reducible assumption) | omega)) | ((with_reducible apply (wpl_loadbyteH (t := 5))); (exact rfl); infer_instance; (first | (with_reducible assumption) | omega); (first | (with_reducible assumption) | omega)) | ((with_reducible apply (wpl_loadint (t := 3))); (exact rfl); infer_instance; infer_instance; (first | (with_reducible assumption) | omega)) | ((with_reducible apply (wpl_loadbyte (t := 5))); (exact rfl); infer_instance; infer_instance; (first | (with_reducible assumption) | omega)))
          refine wpList_nil ?_
          unfold onlyN
          refine hK_.out _ _ inferInstance (fun _ => ?_)
          clear hK_ K_
          try simp only [Act.put, sA]; try simp only [sB, sC]
          refine goH (i := 4) (by kernel_rfl) rfl (fun K_ hK_ => ?_)
          rw [if_pos (by kernel_rfl)]
          refine wpr_of_list ?_
          (first | ((with_reducible apply (stop_dst (dst := some 22))); (try simp only [Act.put, sA, sB, sC]); ((with_reducible apply (wpl_bslice (dst := some 22))); (exact kb3 _); intro zb wb _ _ _)) | ((with_reducible apply wpl_appendH); (exact rfl); (exact rfl); infer_instance; infer_instance; infer_instance; omega; intro L2 lc2 wa _ _ hG hcap2))
          refine wpList_nil ?_
          unfold onlyN
          refine hK_.out _ _ inferInstance (fun _ => ?_)
          clear hK_ K_
          try simp only [Act.put, sA]; try simp only [sB, sC]
          refine goH (i := 5) (by kernel_rfl) rfl (fun K_ hK_ => ?_)
          rw [if_pos (by kernel_rfl)]
          refine wpr_of_list ?_
          (first | ((with_reducible apply (stop_dst (dst := some 22))); (try simp only [Act.put, sA, sB, sC]); ((with_reducible apply (wpl_bslice (dst := some 22))); (exact kb3 _); intro zb wb _ _ _)) | ((with_reducible apply wpl_appendH); (exact rfl); (exact rfl); infer_instance; infer_instance; infer_instance; omega; intro L2 lc2 wa _ _ hG hcap2) | ((with_reducible apply wpl_appendB); (exact rfl); (exact rfl); infer_instance; (first | exact inferInstance | exact ⟨Own.nil _ _ _⟩); infer_instance; (first | (with_reducible assumption) | (with_reducible exact H32.len _) | (focus (simp; done)) | omega); (first | (with_reducible assumption) | omega); intro A' c' wa _ _ _ hcap) | ((with_reducible apply wpl_appendH); (exact rfl); (exact rfl); infer_instance; (first | exact inferInstance | exact ⟨Own.nil _ _ _⟩); infer_instance; (first | (with_reducible assumption) | omega); intro A' c' wa _ _ _ hcap) | ((with_reducible apply (wpl_appendR (α := H32))); (exact rfl); (exact rfl); infer_instance; (first | exact inferInstance | exact ⟨Own.nil _ _ _⟩); infer_instance; (exact rfl); (first | (with_reducible assumption) | (with_reducible exact H32.len _) | (focus (simp; done)) | omega); (first | (with_reducible assumption) | omega); (decide); (decide); intro A' c' wa _ _ _ hcap))
          refine wpList_nil ?_
          unfold onlyN
          refine hK_.out _ _ inferInstance (fun _ => ?_)
          clear hK_ K_
          try simp only [Act.put, sA]; try simp only [sB, sC]
          refine' takeH (i := 6) (v := _) rfl (by kernel_rfl) (by kernel_rfl) (by kernel_rfl) (fun _ _ _ h => h) (yields_of (by rfl) (fun w' _ => ?_)) inferInstance ?_
          rotate_left
          · (go_simp; try with_reducible rfl)
          try simp only [Act.put, sA]; try simp only [sB, sC]
          refine goH (i := 7) (by kernel_rfl) rfl (fun K_ hK_ => ?_)
          rw [if_pos (by kernel_rfl)]
          refine wpr_of_list ?_
          (first | ((with_reducible apply (stop_dst (dst := some 22))); (try simp only [Act.put, sA, sB, sC]); ((with_reducible apply (wpl_bslice (dst := some 22))); (exact kb3 _); intro zb wb _ _ _)) | ((with_reducible apply wpl_appendH); (exact rfl); (exact rfl); infer_instance; infer_instance; infer_instance; omega; intro L2 lc2 wa _ _ hG hcap2) | ((with_reducible apply wpl_storerow); (exact rfl); (exact rfl); infer_instance; infer_instance; (first | (with_reducible assumption) | (with_reducible exact H32.size _) | kernel_rfl); (first | (with_reducible assumption) | (with_reducible exact H32.size _) | kernel_rfl); (first | (with_reducible exact u8s_one _) | (with_reducible assumption) | kernel_rfl); intro ws _ _) | ((with_reducible apply wpl_storecell); (exact rfl); (exact rfl); infer_instance; (exact rfl); (first | (with_reducible assumption) | omega | (focus (simp; done)) | (focus (simp; omega; done)) | decide); intro ws _ _) | ((with_reducible apply (wpl_storehash (t := 78))); (exact rfl); (exact rfl); infer_instance; infer_instance; (first | (with_reducible assumption) | omega | (focus (simp; done)) | (focus (simp; omega; done)) | decide); intro ws _ _) | ((with_reducible apply (wpl_storebyteH (t := 5))); (exact rfl); (exact rfl); infer_instance; (first | (with_reducible assumption) | omega); (first | (with_reducible assumption) | omega); (first | (constructor <;> omega) | exact xor_u8_in _ _); intro ws _ _) | ((with_reducible apply (wpl_storeint (t := 3))); (exact rfl); (exact rfl); infer_instance; (first | (with_reducible assumption) | omega); intro ws _ _) | ((with_reducible apply (wpl_storebyte (t := 5))); (exact rfl); (exact rfl); infer_instance; (first | (with_reducible assumption) | omega | (focus (simp; done)) | (focus (simp; omega; done)) | decide); (constructor <;> omega); intro ws _ _))
          refine wpList_nil ?_
          unfold onlyN
          refine hK_.out _ _ inferInstance (fun _ => ?_)
          clear hK_ K_
          try simp only [Act.put]
          refine wpAnyH_done (by kernel_rfl) ?_ _
        case' br2_4 =>
          rw [if_pos (by kernel_rfl)]
          refine wpr_of_list ?_
          (first | ((with_reducible apply (stop_dst (dst := some 22))); (try simp only [Act.put, sA, sB, sC]); ((with_reducible apply (wpl_bslice (dst := some 22))); (exact kb3 _); intro zb wb _ _ _)) | ((with_reducible apply wpl_appendH); (exact rfl); (exact rfl); infer_instance; infer_instance; infer_instance; omega; intro L2 lc2 wa _ _ hG hcap2))
          refine wpList_nil ?_
          unfold onlyN
          refine hK_.out _ _ inferInstance (fun _ => ?_)
          clear hK_ K_
          try simp only [Act.put, sA]; try simp only [sB, sC]
          refine goH (i := 1) (by kernel_rfl) rfl (fun K_ hK_ => ?_)
          rw [if_pos (by kernel_rfl)]
          refine wpr_of_list ?_
          (first | ((with_reducible apply (stop_dst (dst := some 22))); (try simp only [Act.put, sA, sB, sC]); ((with_reducible apply (wpl_bslice (dst := some 22))); (exact kb3 _); intro zb wb _ _ _)) | ((with_reducible apply wpl_appendH); (exact rfl); (exact rfl); infer_instance; infer_instance; infer_instance; omega; intro L2 lc2 wa _ _ hG hcap2) | ((with_reducible apply wpl_loadrow); (exact rfl); infer_instance; infer_instance; (first | (with_reducible assumption) | (with_reducible exact H32.size _) | kernel_rfl)) | ((with_reducible apply wpl_loadcellN); (exact rfl); infer_instance; (exact rfl)) | ((with_reducible apply (wpl_loadhash (t := 78))); (exact rfl); infer_instance; infer_instance; (first | (with_reducible assumption) | omega)) | ((with_reducible apply (wpl_loadbyteH (t := 5))); (exact rfl); infer_instance; (first | (with_reducible assumption) | omega); (first | (with_reducible assumption) | omega)) | ((with_reducible apply (wpl_loadint (t := 3))); (exact rfl); infer_instance; infer_instance; (first | (with_reducible assumption) | omega)) | ((with_reducible apply (wpl_loadbyte (t := 5))); (exact rfl); infer_instance; infer_instance; (first | (with_reducible assumption) | omega)))
          refine wpList_nil ?_
          unfold onlyN
          refine hK_.out _ _ inferInstance (fun _ => ?_)
          clear hK_ K_
          try simp only [Act.put, sA]; try simp only [sB, sC]
          refine goH (i := 5) (by kernel_rfl) rfl (fun K_ hK_ => ?_)
          rw [if_pos (by kernel_rfl)]
          refine wpr_of_list ?_
          (first | ((with_reducible apply (stop_dst (dst := some 22))); (try simp only [Act.put, sA, sB, sC]); ((with_reducible apply (wpl_bslice (dst := some 22))); (exact kb3 _); intro zb wb _ _ _)) | ((with_reducible apply wpl_appendH); (exact rfl); (exact rfl); infer_instance; infer_instance; infer_instance; omega; intro L2 lc2 wa _ _ hG hcap2) | ((with_reducible apply wpl_appendB); (exact rfl); (exact rfl); infer_instance; (first | exact inferInstance | exact ⟨Own.nil _ _ _⟩); infer_instance; (first | (with_reducible assumption) | (with_reducible exact H32.len _) | (focus (simp; done)) | omega); (first | (with_reducible assumption) | omega); intro A' c' wa _ _ _ hcap) | ((with_reducible apply wpl_appendH); (exact rfl); (exact rfl); infer_instance; (first | exact inferInstance | exact ⟨Own.nil _ _ _⟩); infer_instance; (first | (with_reducible assumption) | omega); intro A' c' wa _ _ _ hcap) | ((with_reducible apply (wpl_appendR (α := H32))); (exact rfl); (exact rfl); infer_instance; (first | exact inferInstance | exact ⟨Own.nil _ _ _⟩); infer_instance; (exact rfl); (first | (with_reducible assumption) | (with_reducible exact H32.len _) | (focus (simp; done)) | omega); (first | (with_reducible assumption) | omega); (decide); (decide); intro A' c' wa _ _ _ hcap))
          refine wpList_nil ?_
          unfold onlyN
          refine hK_.out _ _ inferInstance (fun _ => ?_)
          clear hK_ K_
          try simp only [Act.put, sA]; try simp only [sB, sC]
          refine' takeH (i := 6) (v := _) rfl (by kernel_rfl) (by kernel_rfl) (by kernel_rfl) (fun _ _ _ h => h) (yields_of (by rfl) (fun w' _ => ?_)) inferInstance ?_
          rotate_left
          · (go_simp; try with_reducible rfl)
          try simp only [Act.put, sA]; try simp only [sB, sC]
          refine goH (i := 7) (by kernel_rfl) rfl (fun K_ hK_ => ?_)
          rw [if_pos (by kernel_rfl)]
          refine wpr_of_list ?_
          (first | ((with_reducible apply (stop_dst (dst := some 22))); (try simp only [Act.put, sA, sB, sC]); ((with_reducible apply (wpl_bslice (dst := some 22))); (exact kb3 _); intro zb wb _ _ _)) | ((with_reducible apply wpl_appendH); (exact rfl); (exact rfl); infer_instance; infer_instance; infer_instance; omega; intro L2 lc2 wa _ _ hG hcap2) | ((with_reducible apply wpl_storerow); (exact rfl); (exact rfl); infer_instance; infer_instance; (first | (with_reducible assumption) | (with_reducible exact H32.size _) | kernel_rfl); (first | (with_reducible assumption) | (with_reducible exact H32.size _) | kernel_rfl); (first | (with_reducible exact u8s_one _) | (with_reducible assumption) | kernel_rfl); intro ws _ _) | ((with_reducible apply wpl_storecell); (exact rfl); (exact rfl); infer_instance; (exact rfl); (first | (with_reducible assumption) | omega | (focus (simp; done)) | (focus (simp; omega; done)) | decide); intro ws _ _) | ((with_reducible apply (wpl_storehash (t := 78))); (exact rfl); (exact rfl); infer_instance; infer_instance; (first | (with_reducible assumption) | omega | (focus (simp; done)) | (focus (simp; omega; done)) | decide); intro ws _ _) | ((with_reducible apply (wpl_storebyteH (t := 5))); (exact rfl); (exact rfl); infer_instance; (first | (with_reducible assumption) | omega); (first | (with_reducible assumption) | omega); (first | (constructor <;> omega) | exact xor_u8_in _ _); intro ws _ _) | ((with_reducible apply (wpl_storeint (t := 3))); (exact rfl); (exact rfl); infer_instance; (first | (with_reducible assumption) | omega); intro ws _ _) | ((with_reducible apply (wpl_storebyte (t := 5))); (exact rfl); (exact rfl); infer_instance; (first | (with_reducible assumption) | omega | (focus (simp; done)) | (focus (simp; omega; done)) | decide); (constructor <;> omega); intro ws _ _))
          refine wpList_nil ?_
          unfold onlyN
          refine hK_.out _ _ inferInstance (fun _ => ?_)
          clear hK_ K_
          try simp only [Act.put]
          refine wpAnyH_done (by kernel_rfl) ?_ _
      all_goals
        have hLr2 : ∀ ad, L2 = some ad → ad.block ≠ zr := fun ad e h => by
          rcases hG.out with e2 | e2
          · exact hLr ad (by rw [← e2]; exact e) h
          · rw [e2] at e
            injection e with e
            subst e
            have h1 := h5.out.lt
            have h2 : wb.heap.size = zr := h
            have h3 := (inferInstance : SzLe w5 wb).out
            omega
        have HR5 : Hid (RRAt ws zr d ((dS1 b).hAt (k + 1))) := Lib.hid (((h5.out.chg2 (stepN (w0 := w5) (w := wb)).chg (fun h => h) (fun _ h => h)).chg2 (inferInstance : Step (rowOf L) wb wa).chg (fun ⟨ad, e, h⟩ => hLr ad e h) (fun hne ⟨ad, e, h⟩ => by
          have h1 := hdl (dS_ne (k := k + 1) hne)
          have h2 := hNL.out ad e
          omega)).chg2 (inferInstance : Step (only zs) wa ws).chg (fun e => osr e) (fun hne e => by
          have h1 := hdl (dS_ne (k := k + 1) hne)
          have h2 : d = zs := e
          omega))
        go_wp2_with fail
        exact ⟨⟨k + 1, L2, lc2, by omega, by go_num, stepN, HR5, inferInstance, inferInstance, inferInstance, inferInstance, inferInstance, inferInstance, hLr2⟩, by simp [intOf]; omega⟩
    · have hk36 : k = 36 := by omega
      have hge : 36 ≤ (k : Int) := by omega
      rename_i hB0 hB1 hO0
      rw [hk36] at HR4 hB0 hO0
      obtain ⟨LL, hLL⟩ : ∃ x, x = (dS1 b).hs 36 := ⟨_, rfl⟩
      have HLLd := Lib.hid hLL
      have hOL : HO wr 78 32 L 36 lc (cellsOf LL) := by rw [hLL]; assumption
      have HR6 : Hid (RRAt wr zr d (((dS1 b).hAt 36).hAt 0)) := HR4
      have hb5 : HB wr zs 123 #[.int .i64 lf, .slice L 36 lc, .slice none 0 0] := inferInstance
      have hb6 : HB wr zo 123 #[.int .i64 0, .slice none 0 0, .slice none 0 0] := inferInstance
      clear HR4 hLL hk36 hk hlt hO0 hB0
      go_wp2_with (first | go_skip | ((with_reducible apply wpl_alloc); intro z wz _ _ _) | ((with_reducible apply wpl_box_agg); (exact rfl); intro z wz _ _ _) | ((with_reducible apply wpl_box_int); (exact rfl); intro z wz _ _ _) | ((with_reducible apply wpl_box_slice); (exact rfl); intro z wz _ _ _) | ((with_reducible apply wpl_box_str); (exact rfl); intro z wz _ _ _) | ((with_reducible apply wpl_box_bool); (exact rfl); intro z wz _ _ _) | ((with_reducible apply wpl_box_ptr); (exact rfl); intro z wz _ _ _) | ((with_reducible apply (wpl_guard (op := .load _ _))); (exact rfl)) | ((with_reducible apply wpl_loadrow); (exact rfl); infer_instance; infer_instance; (first | (with_reducible assumption) | (with_reducible exact H32.size _) | kernel_rfl)) | ((with_reducible apply wpl_loadcellN); (exact rfl); infer_instance; (exact rfl)) | ((with_reducible apply wpl_storerow); (exact rfl); (exact rfl); infer_instance; infer_instance; (first | (with_reducible assumption) | (with_reducible exact H32.size _) | kernel_rfl); (first | (with_reducible assumption) | (with_reducible exact H32.size _) | kernel_rfl); (first | (with_reducible exact u8s_one _) | (with_reducible assumption) | kernel_rfl); intro ws _ _) | ((with_reducible apply wpl_storecell); (exact rfl); (exact rfl); infer_instance; (exact rfl); (first | (with_reducible assumption) | omega | (focus (simp; done)) | (focus (simp; omega; done)) | decide); intro ws _ _))
      go_loopw [7] (fun iv wr => ∃ (j : Nat) (M : Option Addr) (mc : Nat), j ≤ 4 ∧ iv = .int .i64 (j : Int) ∧ Step nowhere w wr ∧ Hid (RRAt wr zr d (((dS1 b).hAt 36).hAt j)) ∧ HB wr zs 123 #[.int .i64 lf, .slice L 36 lc, .slice M j mc] ∧ HB wr zo 123 #[.int .i64 0, .slice none 0 0, .slice none 0 0] ∧ HO wr 78 32 L 36 lc (cellsOf LL) ∧ HO wr 78 32 M j mc (cellsOf (((dS1 b).hAt 36).hs j)) ∧ NewA w M ∧ OffB (rowOf M) zs ∧ OffB (rowOf M) zo ∧ OffA (rowOf M) L ∧ (∀ ad, M = some ad → ad.block ≠ zr)) (fun iv _ => 4 - (intOf iv).toNat)
      case atStart => exact ⟨0, none, 0, by decide, rfl, st, HR6, hb5, hb6, hOL, ⟨Own.nil _ _ _⟩, NewA.of_none _, inferInstance, inferInstance, ⟨fun ad _ ⟨ad', e, _⟩ => by cases e⟩, fun ad e => by cases e⟩
      case round =>
        clear HR6 hb5 hb6 hOL st nw
        obtain ⟨j, M, mc, hj, rfl, _, HR4, _, _, _, _, hNM, oMs, oMo, oML, hMr⟩ := hrel
        have st : Step nowhere w wr := inferInstance
        have nw : Nw w wr := ⟨st.chg⟩
        have oMr : OffA (only zr) M := ⟨fun ad e h => hMr ad e h⟩
        by_cases hltj : j < 4
        · have hltJ : (j : Int) < 4 := by omega
          have hle := ((dS1 b).hAt 36).hAt_le j
          have hle1 := dS2_le b
          have kb3 := run_oneH (((dS1 b).hAt 36).hAt j).hash
          go_wp2_with (first | go_skip | ((with_reducible apply wpl_alloc); intro z wz _ _ _) | ((with_reducible apply wpl_box_agg); (exact rfl); intro z wz _ _ _) | ((with_reducible apply wpl_box_int); (exact rfl); intro z wz _ _ _) | ((with_reducible apply wpl_box_slice); (exact rfl); intro z wz _ _ _) | ((with_reducible apply wpl_box_str); (exact rfl); intro z wz _ _ _) | ((with_reducible apply wpl_box_bool); (exact rfl); intro z wz _ _ _) | ((with_reducible apply wpl_box_ptr); (exact rfl); intro z wz _ _ _) | ((with_reducible apply (wpl_guard (op := .load _ _))); (exact rfl)) | ((with_reducible apply wpl_loadrow); (exact rfl); infer_instance; infer_instance; (first | (with_reducible assumption) | (with_reducible exact H32.size _) | kernel_rfl)) | ((with_reducible apply wpl_loadcellN); (exact rfl); infer_instance; (exact rfl)) | ((with_reducible apply wpl_storerow); (exact rfl); (exact rfl); infer_instance; infer_instance; (first | (with_reducible assumption) | (with_reducible exact H32.size _) | kernel_rfl); (first | (with_reducible assumption) | (with_reducible exact H32.size _) | kernel_rfl); (first | (with_reducible exact u8s_one _) | (with_reducible assumption) | kernel_rfl); intro ws _ _) | ((with_reducible apply wpl_storecell); (exact rfl); (exact rfl); infer_instance; (exact rfl); (first | (with_reducible assumption) | omega | (focus (simp; done)) | (focus (simp; omega; done)) | decide); intro ws _ _))
          refine wp_region_N ((g3 zr zs M)) (by kernel_rfl) (fun wd _ _ => ?_)
          refine' takeH (i := 0) (v := _) rfl (by kernel_rfl) (by kernel_rfl) (by kernel_rfl) (fun _ _ _ h => h) (yields_of (by rfl) (fun w' _ => ?_)) inferInstance ?_
          rotate_left
          · (go_simp; try with_reducible rfl)
          try simp only [Act.put, sA]; try simp only [sB, sC]
          refine' takeH (i := 2) (v := _) rfl (by kernel_rfl) (by kernel_rfl) (by kernel_rfl) (fun _ _ _ h => h) (yields_of (by rfl) (fun w' _ => ?_)) inferInstance ?_
          rotate_left
          · (go_simp; try with_reducible rfl)
          try simp only [Act.put, sA]; try simp only [sB, sC]
          refine wpAnyH_ready (rs := [1, 3]) (by kernel_rfl) (by simp) (AllReadyH.cons rfl (fun K_ hK_ => ?br3_1) (AllReadyH.cons rfl (fun K_ hK_ => ?br3_3) AllReadyH.nil))
          case' br3_1 =>
            rw [if_pos (by kernel_rfl)]
            refine wpr_of_list ?_
            (first | ((with_reducible apply (stop_dst (dst := some 33))); (try simp only [Act.put, sA, sB, sC]); ((with_reducible apply (wpl_bslice (dst := some 33))); (exact kb3 _); intro zb wb _ _ _)) | ((with_reducible apply wpl_appendH); (exact rfl); (exact rfl); infer_instance; infer_instance; infer_instance; omega; intro L2 lc2 wa _ _ hG hcap2) | ((with_reducible apply wpl_loadrow); (exact rfl); infer_instance; infer_instance; (first | (with_reducible assumption) | (with_reducible exact H32.size _) | kernel_rfl)) | ((with_reducible apply wpl_loadcellN); (exact rfl); infer_instance; (exact rfl)) | ((with_reducible apply (wpl_loadhash (t := 78))); (exact rfl); infer_instance; infer_instance; (first | (with_reducible assumption) | omega)) | ((with_reducible apply (wpl_loadbyteH (t := 5))); (exact rfl); infer_instance; (first | (with_reducible assumption) | omega); (first | (with_reducible assumption) | omega)) | ((with_reducible apply (wpl_loadint (t := 3))); (exact rfl); infer_instance; infer_instance; (first | (with_reducible assumption) | omega)) | ((with_reducible apply (wpl_loadbyte (t := 5))); (exact rfl); infer_instance; infer_instance; (first | (with_reducible assumption) | omega)))
            refine wpList_nil ?_
            unfold onlyN
            refine hK_.out _ _ inferInstance (fun _ => ?_)
            clear hK_ K_
            try simp only [Act.put, sA]; try simp only [sB, sC]
            refine goH (i := 3) (by kernel_rfl) rfl (fun K_ hK_ => ?_)
            go_simp
            refine (rhash_calls (HR4.out.chg (stepN (w0 := wr)).chg (fun h => h) (fun h => h)) (by have := HLE.out; omega)).mono ?_
            rintro e w5 ⟨rfl, _, h5⟩
            refine hK_.out _ _ inferInstance (fun _ => ?_)
            clear hK_ K_
            try simp only [Act.put, sA]; try simp only [sB, sC]
            refine goH (i := 4) (by kernel_rfl) rfl (fun K_ hK_ => ?_)
            rw [if_pos (by kernel_rfl)]
            refine wpr_of_list ?_
            (first | ((with_reducible apply (stop_dst (dst := some 33))); (try simp only [Act.put, sA, sB, sC]); ((with_reducible apply (wpl_bslice (dst := some 33))); (exact kb3 _); intro zb wb _ _ _)) | ((with_reducible apply wpl_appendH); (exact rfl); (exact rfl); infer_instance; infer_instance; infer_instance; omega; intro L2 lc2 wa _ _ hG hcap2))
            refine wpList_nil ?_
            unfold onlyN
            refine hK_.out _ _ inferInstance (fun _ => ?_)
            clear hK_ K_
            try simp only [Act.put, sA]; try simp only [sB, sC]
            refine goH (i := 5) (by kernel_rfl) rfl (fun K_ hK_ => ?_)
            rw [if_pos (by kernel_rfl)]
            refine wpr_of_list ?_
            (first | ((with_reducible apply (stop_dst (dst := some 33))); (try simp only [Act.put, sA, sB, sC]); ((with_reducible apply (wpl_bslice (dst := some 33))); (exact kb3 _); intro zb wb _ _ _)) | ((with_reducible apply wpl_appendH); (exact rfl); (exact rfl); infer_instance; infer_instance; infer_instance; omega; intro L2 lc2 wa _ _ hG hcap2) | ((with_reducible apply wpl_appendB); (exact rfl); (exact rfl); infer_instance; (first | exact inferInstance | exact ⟨Own.nil _ _ _⟩); infer_instance; (first | (with_reducible assumption) | (with_reducible exact H32.len _) | (focus (simp; done)) | omega); (first | (with_reducible assumption) | omega); intro A' c' wa _ _ _ hcap) | ((with_reducible apply wpl_appendH); (exact rfl); (exact rfl); infer_instance; (first | exact inferInstance | exact ⟨Own.nil _ _ _⟩); infer_instance; (first | (with_reducible assumption) | omega); intro A' c' wa _ _ _ hcap) | ((with_reducible apply (wpl_appendR (α := H32))); (exact rfl); (exact rfl); infer_instance; (first | exact inferInstance | exact ⟨Own.nil _ _ _⟩); infer_instance; (exact rfl); (first | (with_reducible assumption) | (with_reducible exact H32.len _) | (focus (simp; done)) | omega); (first | (with_reducible assumption) | omega); (decide); (decide); intro A' c' wa _ _ _ hcap))
            refine wpList_nil ?_
            unfold onlyN
            refine hK_.out _ _ inferInstance (fun _ => ?_)
            clear hK_ K_
            try simp only [Act.put, sA]; try simp only [sB, sC]
            refine' takeH (i := 6) (v := _) rfl (by kernel_rfl) (by kernel_rfl) (by kernel_rfl) (fun _ _ _ h => h) (yields_of (by rfl) (fun w' _ => ?_)) inferInstance ?_
            rotate_left
            · (go_simp; try with_reducible rfl)
            try simp only [Act.put, sA]; try simp only [sB, sC]
            refine goH (i := 7) (by kernel_rfl) rfl (fun K_ hK_ => ?_)
            rw [if_pos (by kernel_rfl)]
            refine wpr_of_list ?_
            (first | ((with_reducible apply (stop_dst (dst := some 33))); (try simp only [Act.put, sA, sB, sC]); ((with_reducible apply (wpl_bslice (dst := some 33))); (exact kb3 _); intro zb wb _ _ _)) | ((with_reducible apply wpl_appendH); (exact rfl); (exact rfl); infer_instance; infer_instance; infer_instance; omega; intro L2 lc2 wa _ _ hG hcap2) | ((with_reducible apply wpl_storerow); (exact rfl); (exact rfl); infer_instance; infer_instance; (first | (with_reducible assumption) | (with_reducible exact H32.size _) | kernel_rfl); (first | (with_reducible assumption) | (with_reducible exact H32.size _) | kernel_rfl); (first | (with_reducible exact u8s_one _) | (with_reducible assumption) | kernel_rfl); intro ws _ _) | ((with_reducible apply wpl_storecell); (exact rfl); (exact rfl); infer_instance; (exact rfl); (first | (with_reducible assumption) | omega | (focus (simp; done)) | (focus (simp; omega; done)) | decide); intro ws _ _) | ((with_reducible apply (wpl_storehash (t := 78))); (exact rfl); (exact rfl); infer_instance; infer_instance; (first | (with_reducible assumption) | omega | (focus (simp; done)) | (focus (simp; omega; done)) | decide); intro ws _ _) | ((with_reducible apply (wpl_storebyteH (t := 5))); (exact rfl); (exact rfl); infer_instance; (first | (with_reducible assumption) | omega); (first | (with_reducible assumption) | omega); (first | (constructor <;> omega) | exact xor_u8_in _ _); intro ws _ _) | ((with_reducible apply (wpl_storeint (t := 3))); (exact rfl); (exact rfl); infer_instance; (first | (with_reducible assumption) | omega); intro ws _ _) | ((with_reducible apply (wpl_storebyte (t := 5))); (exact rfl); (exact rfl); infer_instance; (first | (with_reducible assumption) | omega | (focus (simp; done)) | (focus (simp; omega; done)) | decide); (constructor <;> omega); intro ws _ _))
            refine wpList_nil ?_
            unfold onlyN
            refine hK_.out _ _ inferInstance (fun _ => ?_)
            clear hK_ K_
            try simp only [Act.put]
            refine wpAnyH_done (by kernel_rfl) ?_ _
          case' br3_3 =>
            go_simp
            refine (rhash_calls (HR4.out.chg (stepN (w0 := wr)).chg (fun h => h) (fun h => h)) (by have := HLE.out; omega)).mono ?_
            rintro e w5 ⟨rfl, _, h5⟩
            refine hK_.out _ _ inferInstance (fun _ => ?_)
            clear hK_ K_
            try simp only [Act.put, sA]; try simp only [sB, sC]
            refine wpAnyH_ready (rs := [1, 4]) (by kernel_rfl) (by simp) (AllReadyH.cons rfl (fun K_ hK_ => ?br4_1) (AllReadyH.cons rfl (fun K_ hK_ => ?br4_4) AllReadyH.nil))
            case' br4_1 =>
              rw [if_pos (by kernel_rfl)]
              refine wpr_of_list ?_
              (first | ((with_reducible apply (stop_dst (dst := some 33))); (try simp only [Act.put, sA, sB, sC]); ((with_reducible apply (wpl_bslice (dst := some 33))); (exact kb3 _); intro zb wb _ _ _)) | ((with_reducible apply wpl_appendH); (exact rfl); (exact rfl); infer_instance; infer_instance; infer_instance; omega; intro L2 lc2 wa _ _ hG hcap2) | ((with_reducible apply wpl_loadrow); (exact rfl); infer_instance; infer_instance; (first | (with_reducible assumption) | (with_reducible exact H32.size _) | kernel_rfl)) | ((with_reducible apply wpl_loadcellN); (exact rfl); infer_instance; (exact rfl)) | ((with_reducible apply (wpl_loadhash (t := 78))); (exact rfl); infer_instance; infer_instance; (first | (with_reducible assumption) | omega)) | ((with_reducible apply (wpl_loadbyteH (t := 5))); (exact rfl); infer_instance; (first | (with_reducible assumption) | omega); (first | (with_reducible assumption) | omega)) | ((with_reducible apply (wpl_loadint (t := 3))); (exact rfl); infer_instance; infer_instance; (first | (with_reducible assumption) | omega)) | ((with_reducible apply (wpl_loadbyte (t := 5))); (exact rfl); infer_instance; infer_instance; (first | (with_reducible assumption) | omega)))
              refine wpList_nil ?_
              unfold onlyN
              refine hK_.out _ _ inferInstance (fun _ => ?_)
              clear hK_ K_
              try simp only [Act.put, sA]; try simp only [sB, sC]
              refine goH (i := 4) (by kernel_rfl) rfl (fun K_ hK_ => ?_)
              rw [if_pos (by kernel_rfl)]
              refine wpr_of_list ?_
              (first | ((with_reducible apply (stop_dst (dst := some 33))); (try simp only [Act.put, sA, sB, sC]); ((with_reducible apply (wpl_bslice (dst := some 33))); (exact kb3 _); intro zb wb _ _ _)) | ((with_reducible apply wpl_appendH); (exact rfl); (exact rfl); infer_instance; infer_instance; infer_instance; omega; intro L2 lc2 wa _ _ hG hcap2))
              refine wpList_nil ?_
              unfold onlyN
              refine hK_.out _ _ inferInstance (fun _ => ?_)
              clear hK_ K_
              try simp only [Act.put, sA]; try simp only [sB, sC]
              refine goH (i := 5) (by kernel_rfl) rfl (fun K_ hK_ => ?_)
              rw [if_pos (by kernel_rfl)]
              refine wpr_of_list ?_
              (first | ((with_reducible apply (stop_dst (dst := some 33))); (try simp only [Act.put, sA, sB, sC]); ((with_reducible apply (wpl_bslice (dst := some 33))); (exact kb3 _); intro zb wb _ _ _)) | ((with_reducible apply wpl_appendH); (exact rfl); (exact rfl); infer_instance; infer_instance; infer_instance; omega; intro L2 lc2 wa _ _ hG hcap2) | ((with_reducible apply wpl_appendB); (exact rfl); (exact rfl); infer_instance; (first | exact inferInstance | exact ⟨Own.nil _ _ _⟩); infer_instance; (first | (with_reducible assumption) | (with_reducible exact H32.len _) | (focus (simp; done)) | omega); (first | (with_reducible assumption) | omega); intro A' c' wa _ _ _ hcap) | ((with_reducible apply wpl_appendH); (exact rfl); (exact rfl); infer_instance; (first | exact inferInstance | exact ⟨Own.nil _ _ _⟩); infer_instance; (first | (with_reducible assumption) | omega); intro A' c' wa _ _ _ hcap) | ((with_reducible apply (wpl_appendR (α := H32))); (exact rfl); (exact rfl); infer_instance; (first | exact inferInstance | exact ⟨Own.nil _ _ _⟩); infer_instance; (exact rfl); (first | (with_reducible assumption) | (with_reducible exact H32.len _) | (focus (simp; done)) | omega); (first | (with_reducible assumption) | omega); (decide); (decide); intro A' c' wa _ _ _ hcap))
              refine wpList_nil ?_
              unfold onlyN
              refine hK_.out _ _ inferInstance (fun _ => ?_)
              clear hK_ K_
              try simp only [Act.put, sA]; try simp only [sB, sC]
              refine' takeH (i := 6) (v := _) rfl (by kernel_rfl) (by kernel_rfl) (by kernel_rfl) (fun _ _ _ h => h) (yields_of (by rfl) (fun w' _ => ?_)) inferInstance ?_
              rotate_left
              · (go_simp; try with_reducible rfl)
              try simp only [Act.put, sA]; try simp only [sB, sC]
              refine goH (i := 7) (by kernel_rfl) rfl (fun K_ hK_ => ?_)
              rw [if_pos (by kernel_rfl)]
              refine wpr_of_list ?_
              (first | ((with_reducible apply (stop_dst (dst := some 33))); (try simp only [Act.put, sA, sB, sC]); ((with_reducible apply (wpl_bslice (dst := some 33))); (exact kb3 _); intro zb wb _ _ _)) | ((with_reducible apply wpl_appendH); (exact rfl); (exact rfl); infer_instance; infer_instance; infer_instance; omega; intro L2 lc2 wa _ _ hG hcap2) | ((with_reducible apply wpl_storerow); (exact rfl); (exact rfl); infer_instance; infer_instance; (first | (with_reducible assumption) | (with_reducible exact H32.size _) | kernel_rfl); (first | (with_reducible assumption) | (with_reducible exact H32.size _) | kernel_rfl); (first | (with_reducible exact u8s_one _) | (with_reducible assumption) | kernel_rfl); intro ws _ _) | ((with_reducible apply wpl_storecell); (exact rfl); (exact rfl); infer_instance; (exact rfl); (first | (with_reducible assumption) | omega | (focus (simp; done)) | (focus (simp; omega; done)) | decide); intro ws _ _) | ((with_reducible apply (wpl_storehash (t := 78))); (exact rfl); (exact rfl); infer_instance; infer_instance; (first | (with_reducible assumption) | omega | (focus (simp; done)) | (focus (simp; omega; done)) | decide); intro ws _ _) | ((with_reducible apply (wpl_storebyteH (t := 5))); (exact rfl); (exact rfl); infer_instance; (first | (with_reducible assumption) | omega); (first | (with_reducible assumption) | omega); (first | (constructor <;> omega) | exact xor_u8_in _ _); intro ws _ _) | ((with_reducible apply (wpl_storeint (t := 3))); (exact rfl); (exact rfl); infer_instance; (first | (with_reducible assumption) | omega); intro ws _ _) | ((with_reducible apply (wpl_storebyte (t := 5))); (exact rfl); (exact rfl); infer_instance; (first | (with_reducible assumption) | omega | (focus (simp; done)) | (focus (simp; omega; done)) | decide); (constructor <;> omega); intro ws _ _))
              refine wpList_nil ?_
              unfold onlyN
              refine hK_.out _ _ inferInstance (fun _ => ?_)
              clear hK_ K_
              try simp only [Act.put]
              refine wpAnyH_done (by kernel_rfl) ?_ _
            case' br4_4 =>
              rw [if_pos (by kernel_rfl)]
              refine wpr_of_list ?_
              (first | ((with_reducible apply (stop_dst (dst := some 33))); (try simp only [Act.put, sA, sB, sC]); ((with_reducible apply (wpl_bslice (dst := some 33))); (exact kb3 _); intro zb wb _ _ _)) | ((with_reducible apply wpl_appendH); (exact rfl); (exact rfl); infer_instance; infer_instance; infer_instance; omega; intro L2 lc2 wa _ _ hG hcap2))
              refine wpList_nil ?_
              unfold onlyN
              refine hK_.out _ _ inferInstance (fun _ => ?_)
              clear hK_ K_
              try simp only [Act.put, sA]; try simp only [sB, sC]
              refine goH (i := 1) (by kernel_rfl) rfl (fun K_ hK_ => ?_)
              rw [if_pos (by kernel_rfl)]
              refine wpr_of_list ?_
              (first | ((with_reducible apply (stop_dst (dst := some 33))); (try simp only [Act.put, sA, sB, sC]); ((with_reducible apply (wpl_bslice (dst := some 33))); (exact kb3 _); intro zb wb _ _ _)) | ((with_reducible apply wpl_appendH); (exact rfl); (exact rfl); infer_instance; infer_instance; infer_instance; omega; intro L2 lc2 wa _ _ hG hcap2) | ((with_reducible apply wpl_loadrow); (exact rfl); infer_instance; infer_instance; (first | (with_reducible assumption) | (with_reducible exact H32.size _) | kernel_rfl)) | ((with_reducible apply wpl_loadcellN); (exact rfl); infer_instance; (exact rfl)) | ((with_reducible apply (wpl_loadhash (t := 78))); (exact rfl); infer_instance; infer_instance; (first | (with_reducible assumption) | omega)) | ((with_reducible apply (wpl_loadbyteH (t := 5))); (exact rfl); infer_instance; (first | (with_reducible assumption) | omega); (first | (with_reducible assumption) | omega)) | ((with_reducible apply (wpl_loadint (t := 3))); (exact rfl); infer_instance; infer_instance; (first | (with_reducible assumption) | omega)) | ((with_reducible apply (wpl_loadbyte (t := 5))); (exact rfl); infer_instance; infer_instance; (first | (with_reducible assumption) | omega)))
              refine wpList_nil ?_
              unfold onlyN
              refine hK_.out _ _ inferInstance (fun _ => ?_)
              clear hK_ K_
              try simp only [Act.put, sA]; try simp only [sB, sC]
              refine goH (i := 5) (by kernel_rfl) rfl (fun K_ hK_ => ?_)
              rw [if_pos (by kernel_rfl)]
              refine wpr_of_list ?_
              (first | ((with_reducible apply (stop_dst (dst := some 33))); (try simp only [Act.put, sA, sB, sC]); ((with_reducible apply (wpl_bslice (dst := some 33))); (exact kb3 _); intro zb wb _ _ _)) | ((with_reducible apply wpl_appendH); (exact rfl); (exact rfl); infer_instance; infer_instance; infer_instance; omega; intro L2 lc2 wa _ _ hG hcap2) | ((with_reducible apply wpl_appendB); (exact rfl); (exact rfl); infer_instance; (first | exact inferInstance | exact ⟨Own.nil _ _ _⟩); infer_instance; (first | (with_reducible assumption) | (with_reducible exact H32.len _) | (focus (simp; done)) | omega); (first | (with_reducible assumption) | omega); intro A' c' wa _ _ _ hcap) | ((with_reducible apply wpl_appendH); (exact rfl); (exact rfl); infer_instance; (first | exact inferInstance | exact ⟨Own.nil _ _ _⟩); infer_instance; (first | (with_reducible assumption) | omega); intro A' c' wa _ _ _ hcap) | ((with_reducible apply (wpl_appendR (α := H32))); (exact rfl); (exact rfl); infer_instance; (first | exact inferInstance | exact ⟨Own.nil _ _ _⟩); infer_instance; (exact rfl); (first | (with_reducible assumption) | (with_reducible exact H32.len _) | (focus (simp; done)) | omega); (first | (with_reducible assumption) | omega); (decide); (decide); intro A' c' wa _ _ _ hcap))
              refine wpList_nil ?_
              unfold onlyN
              refine hK_.out _ _ inferInstance (fun _ => ?_)
              clear hK_ K_
              try simp only [Act.put, sA]; try simp only [sB, sC]
              refine' takeH (i := 6) (v := _) rfl (by kernel_rfl) (by kernel_rfl) (by kernel_rfl) (fun _ _ _ h => h) (yields_of (by rfl) (fun w' _ => ?_)) inferInstance ?_
              rotate_left
              · (go_simp; try with_reducible rfl)
              try simp only [Act.put, sA]; try simp only [sB, sC]
              refine goH (i := 7) (by kernel_rfl) rfl (fun K_ hK_ => ?_)
              rw [if_pos (by kernel_rfl)]
              refine wpr_of_list ?_
              (first | ((with_reducible apply (stop_dst (dst := some 33))); (try simp only [Act.put, sA, sB, sC]); ((with_reducible apply (wpl_bslice (dst := some 33))); (exact kb3 _); intro zb wb _ _ _)) | ((with_reducible apply wpl_appendH); (exact rfl); (exact rfl); infer_instance; infer_instance; infer_instance; omega; intro L2 lc2 wa _ _ hG hcap2) | ((with_reducible apply wpl_storerow); (exact rfl); (exact rfl); infer_instance; infer_instance; (first | (with_reducible assumption) | (with_reducible exact H32.size _) | kernel_rfl); (first | (with_reducible assumption) | (with_reducible exact H32.size _) | kernel_rfl); (first | (with_reducible exact u8s_one _) | (with_reducible assumption) | kernel_rfl); intro ws _ _) | ((with_reducible apply wpl_storecell); (exact rfl); (exact rfl); infer_instance; (exact rfl); (first | (with_reducible assumption) | omega | (focus (simp; done)) | (focus (simp; omega; done)) | decide); intro ws _ _) | ((with_reducible apply (wpl_storehash (t := 78))); (exact rfl); (exact rfl); infer_instance; infer_instance; (first | (with_reducible assumption) | omega | (focus (simp; done)) | (focus (simp; omega; done)) | decide); intro ws _ _) | ((with_reducible apply (wpl_storebyteH (t := 5))); (exact rfl); (exact rfl); infer_instance; (first | (with_reducible assumption) | omega); (first | (with_reducible assumption) | omega); (first | (constructor <;> omega) | exact xor_u8_in _ _); intro ws _ _) | ((with_reducible apply (wpl_storeint (t := 3))); (exact rfl); (exact rfl); infer_instance; (first | (with_reducible assumption) | omega); intro ws _ _) | ((with_reducible apply (wpl_storebyte (t := 5))); (exact rfl); (exact rfl); infer_instance; (first | (with_reducible assumption) | omega | (focus (simp; done)) | (focus (simp; omega; done)) | decide); (constructor <;> omega); intro ws _ _))
              refine wpList_nil ?_
              unfold onlyN
              refine hK_.out _ _ inferInstance (fun _ => ?_)
              clear hK_ K_
              try simp only [Act.put]
              refine wpAnyH_done (by kernel_rfl) ?_ _
          all_goals
            have hLr2 : ∀ ad, L2 = some ad → ad.block ≠ zr := fun ad e h => by
              rcases hG.out with e2 | e2
              · exact hMr ad (by rw [← e2]; exact e) h
              · rw [e2] at e
                injection e with e
                subst e
                have h1 := h5.out.lt
                have h2 : wb.heap.size = zr := h
                have h3 := (inferInstance : SzLe w5 wb).out
                omega
            have HR5 : Hid (RRAt ws zr d (((dS1 b).hAt 36).hAt (j + 1))) := Lib.hid (((h5.out.chg2 (stepN (w0 := w5) (w := wb)).chg (fun h => h) (fun _ h => h)).chg2 (inferInstance : Step (rowOf M) wb wa).chg (fun ⟨ad, e, h⟩ => hMr ad e h) (fun hne ⟨ad, e, h⟩ => by
              have h1 := hdl (dP_ne (k := j + 1) hne)
              have h2 := hNM.out ad e
              omega)).chg2 (inferInstance : Step (only zs) wa ws).chg (fun e => osr e) (fun hne e => by
              have h1 := hdl (dP_ne (k := j + 1) hne)
              have h2 : d = zs := e
              omega))
            have oL2 : OffA (rowOf L2) L := inferInstance
            go_wp2_with fail
            exact ⟨⟨j + 1, L2, lc2, by omega, by go_num, stepN, HR5, inferInstance, inferInstance, inferInstance, inferInstance, inferInstance, inferInstance, inferInstance, oL2, hLr2⟩, by simp [intOf]; omega⟩
        · have hj4 : j = 4 := by omega
          have hgj : 4 ≤ (j : Int) := by omega
          rename_i hB2 hB3 hOO hO2
          rw [hj4] at HR4 hB2 hO2
          have HR5 : Hid (RRAt wr zr d (dS b)) := HR4
          obtain ⟨PP, hPP⟩ : ∃ x, x = ((dS1 b).hAt 36).hs 4 := ⟨_, rfl⟩
          have HPPd := Lib.hid hPP
          have hOP : HO wr 78 32 M 4 mc (cellsOf PP) := by rw [hPP]; assumption
          have e6 : (!(dS b).e && decide ((dS b).b = [])) = dWhole b := rfl
          clear HR4 hPP hj4 hj hltj
          go_wp2_with (first | go_skip | ((with_reducible apply wpl_alloc); intro z wz _ _ _) | ((with_reducible apply wpl_box_agg); (exact rfl); intro z wz _ _ _) | ((with_reducible apply wpl_box_int); (exact rfl); intro z wz _ _ _) | ((with_reducible apply wpl_box_slice); (exact rfl); intro z wz _ _ _) | ((with_reducible apply wpl_box_str); (exact rfl); intro z wz _ _ _) | ((with_reducible apply wpl_box_bool); (exact rfl); intro z wz _ _ _) | ((with_reducible apply wpl_box_ptr); (exact rfl); intro z wz _ _ _) | ((with_reducible apply (wpl_guard (op := .load _ _))); (exact rfl)) | ((with_reducible apply wpl_loadrow); (exact rfl); infer_instance; infer_instance; (first | (with_reducible assumption) | (with_reducible exact H32.size _) | kernel_rfl)) | ((with_reducible apply wpl_loadcellN); (exact rfl); infer_instance; (exact rfl)) | ((with_reducible apply wpl_storerow); (exact rfl); (exact rfl); infer_instance; infer_instance; (first | (with_reducible assumption) | (with_reducible exact H32.size _) | kernel_rfl); (first | (with_reducible assumption) | (with_reducible exact H32.size _) | kernel_rfl); (first | (with_reducible exact u8s_one _) | (with_reducible assumption) | kernel_rfl); intro ws _ _) | ((with_reducible apply wpl_storecell); (exact rfl); (exact rfl); infer_instance; (exact rfl); (first | (with_reducible assumption) | omega | (focus (simp; done)) | (focus (simp; omega; done)) | decide); intro ws _ _))
          refine (rrWhole_calls zr d (dS b) wr HR5.out (by have := dS_le b; have := HLE.out; omega)).mono ?_
          rintro e w6 ⟨rfl, hw6⟩
          have st6 : Step nowhere wr w6 := ⟨by rw [hw6]; exact Chg.refl _ _⟩
          rw [e6]
          clear hw6 e6
          rcases hcw : dWhole b with _ | _
          · go_wp2_with (first | go_skip | ((with_reducible apply wpl_build); (exact kb0 _)) | ((with_reducible apply wpl_alloc); intro z wz _ _ _) | ((with_reducible apply wpl_box_agg); (exact rfl); intro z wz _ _ _) | ((with_reducible apply wpl_box_int); (exact rfl); intro z wz _ _ _) | ((with_reducible apply wpl_box_slice); (exact rfl); intro z wz _ _ _) | ((with_reducible apply wpl_box_str); (exact rfl); intro z wz _ _ _) | ((with_reducible apply wpl_box_bool); (exact rfl); intro z wz _ _ _) | ((with_reducible apply wpl_box_ptr); (exact rfl); intro z wz _ _ _) | ((with_reducible apply (wpl_guard (op := .load _ _))); (exact rfl)) | ((with_reducible apply wpl_loadrow); (exact rfl); infer_instance; infer_instance; (first | (with_reducible assumption) | (with_reducible exact H32.size _) | kernel_rfl)) | ((with_reducible apply wpl_loadcellN); (exact rfl); infer_instance; (exact rfl)) | ((with_reducible apply wpl_storerow); (exact rfl); (exact rfl); infer_instance; infer_instance; (first | (with_reducible assumption) | (with_reducible exact H32.size _) | kernel_rfl); (first | (with_reducible assumption) | (with_reducible exact H32.size _) | kernel_rfl); (first | (with_reducible exact u8s_one _) | (with_reducible assumption) | kernel_rfl); intro ws _ _) | ((with_reducible apply wpl_storecell); (exact rfl); (exact rfl); infer_instance; (exact rfl); (first | (with_reducible assumption) | omega | (focus (simp; done)) | (focus (simp; omega; done)) | decide); intro ws _ _))
            refine ret_row_ rfl rfl rfl (n := 3) rfl rfl ?_
            rw [HRd.out]
            unfold KDecPost dOk
            rw [hcw, Bool.false_and]
            exact ⟨stepN, rfl⟩
          · rcases hci : isS lf 36 4 with _ | _
            · go_wp2_with (first | go_skip | ((with_reducible apply wpl_alloc); intro z wz _ _ _) | ((with_reducible apply wpl_box_agg); (exact rfl); intro z wz _ _ _) | ((with_reducible apply wpl_box_int); (exact rfl); intro z wz _ _ _) | ((with_reducible apply wpl_box_slice); (exact rfl); intro z wz _ _ _) | ((with_reducible apply wpl_box_str); (exact rfl); intro z wz _ _ _) | ((with_reducible apply wpl_box_bool); (exact rfl); intro z wz _ _ _) | ((with_reducible apply wpl_box_ptr); (exact rfl); intro z wz _ _ _) | ((with_reducible apply (wpl_guard (op := .load _ _))); (exact rfl)) | ((with_reducible apply wpl_loadrow); (exact rfl); infer_instance; infer_instance; (first | (with_reducible assumption) | (with_reducible exact H32.size _) | kernel_rfl)) | ((with_reducible apply wpl_loadcellN); (exact rfl); infer_instance; (exact rfl)) | ((with_reducible apply wpl_storerow); (exact rfl); (exact rfl); infer_instance; infer_instance; (first | (with_reducible assumption) | (with_reducible exact H32.size _) | kernel_rfl); (first | (with_reducible assumption) | (with_reducible exact H32.size _) | kernel_rfl); (first | (with_reducible exact u8s_one _) | (with_reducible assumption) | kernel_rfl); intro ws _ _) | ((with_reducible apply wpl_storecell); (exact rfl); (exact rfl); infer_instance; (exact rfl); (first | (with_reducible assumption) | omega | (focus (simp; done)) | (focus (simp; omega; done)) | decide); intro ws _ _))
              refine (ris_calls _).mono ?_
              rw [hci]
              rintro e w7 ⟨rfl, _⟩
              go_wp2_with (first | go_skip | ((with_reducible apply wpl_build); (exact kb0 _)) | ((with_reducible apply wpl_alloc); intro z wz _ _ _) | ((with_reducible apply wpl_box_agg); (exact rfl); intro z wz _ _ _) | ((with_reducible apply wpl_box_int); (exact rfl); intro z wz _ _ _) | ((with_reducible apply wpl_box_slice); (exact rfl); intro z wz _ _ _) | ((with_reducible apply wpl_box_str); (exact rfl); intro z wz _ _ _) | ((with_reducible apply wpl_box_bool); (exact rfl); intro z wz _ _ _) | ((with_reducible apply wpl_box_ptr); (exact rfl); intro z wz _ _ _) | ((with_reducible apply (wpl_guard (op := .load _ _))); (exact rfl)) | ((with_reducible apply wpl_loadrow); (exact rfl); infer_instance; infer_instance; (first | (with_reducible assumption) | (with_reducible exact H32.size _) | kernel_rfl)) | ((with_reducible apply wpl_loadcellN); (exact rfl); infer_instance; (exact rfl)) | ((with_reducible apply wpl_storerow); (exact rfl); (exact rfl); infer_instance; infer_instance; (first | (with_reducible assumption) | (with_reducible exact H32.size _) | kernel_rfl); (first | (with_reducible assumption) | (with_reducible exact H32.size _) | kernel_rfl); (first | (with_reducible exact u8s_one _) | (with_reducible assumption) | kernel_rfl); intro ws _ _) | ((with_reducible apply wpl_storecell); (exact rfl); (exact rfl); infer_instance; (exact rfl); (first | (with_reducible assumption) | omega | (focus (simp; done)) | (focus (simp; omega; done)) | decide); intro ws _ _))
              refine ret_row_ rfl rfl rfl (n := 3) rfl rfl ?_
              rw [HRd.out]
              unfold KDecPost dOk
              rw [hcw, ← HLF.out, hci]
              exact ⟨stepN, rfl⟩
            · go_wp2_with (first | go_skip | ((with_reducible apply wpl_alloc); intro z wz _ _ _) | ((with_reducible apply wpl_box_agg); (exact rfl); intro z wz _ _ _) | ((with_reducible apply wpl_box_int); (exact rfl); intro z wz _ _ _) | ((with_reducible apply wpl_box_slice); (exact rfl); intro z wz _ _ _) | ((with_reducible apply wpl_box_str); (exact rfl); intro z wz _ _ _) | ((with_reducible apply wpl_box_bool); (exact rfl); intro z wz _ _ _) | ((with_reducible apply wpl_box_ptr); (exact rfl); intro z wz _ _ _) | ((with_reducible apply (wpl_guard (op := .load _ _))); (exact rfl)) | ((with_reducible apply wpl_loadrow); (exact rfl); infer_instance; infer_instance; (first | (with_reducible assumption) | (with_reducible exact H32.size _) | kernel_rfl)) | ((with_reducible apply wpl_loadcellN); (exact rfl); infer_instance; (exact rfl)) | ((with_reducible apply wpl_storerow); (exact rfl); (exact rfl); infer_instance; infer_instance; (first | (with_reducible assumption) | (with_reducible exact H32.size _) | kernel_rfl); (first | (with_reducible assumption) | (with_reducible exact H32.size _) | kernel_rfl); (first | (with_reducible exact u8s_one _) | (with_reducible assumption) | kernel_rfl); intro ws _ _) | ((with_reducible apply wpl_storecell); (exact rfl); (exact rfl); infer_instance; (exact rfl); (first | (with_reducible assumption) | omega | (focus (simp; done)) | (focus (simp; omega; done)) | decide); intro ws _ _))
              refine (ris_calls _).mono ?_
              rw [hci]
              rintro e w7 ⟨rfl, _⟩
              have oLo' : OffA (only zo) L := OffA.ofB _ _
              have oMo' : OffA (only zo) M := OffA.ofB _ _
              go_wp2_with (first | go_skip | ((with_reducible apply wpl_alloc); intro z wz _ _ _) | ((with_reducible apply wpl_box_agg); (exact rfl); intro z wz _ _ _) | ((with_reducible apply wpl_box_int); (exact rfl); intro z wz _ _ _) | ((with_reducible apply wpl_box_slice); (exact rfl); intro z wz _ _ _) | ((with_reducible apply wpl_box_str); (exact rfl); intro z wz _ _ _) | ((with_reducible apply wpl_box_bool); (exact rfl); intro z wz _ _ _) | ((with_reducible apply wpl_box_ptr); (exact rfl); intro z wz _ _ _) | ((with_reducible apply (wpl_guard (op := .load _ _))); (exact rfl)) | ((with_reducible apply wpl_loadrow); (exact rfl); infer_instance; infer_instance; (first | (with_reducible assumption) | (with_reducible exact H32.size _) | kernel_rfl)) | ((with_reducible apply wpl_loadcellN); (exact rfl); infer_instance; (exact rfl)) | ((with_reducible apply wpl_storerow); (exact rfl); (exact rfl); infer_instance; infer_instance; (first | (with_reducible assumption) | (with_reducible exact H32.size _) | kernel_rfl); (first | (with_reducible assumption) | (with_reducible exact H32.size _) | kernel_rfl); (first | (with_reducible exact u8s_one _) | (with_reducible assumption) | kernel_rfl); intro ws _ _) | ((with_reducible apply wpl_storecell); (exact rfl); (exact rfl); infer_instance; (exact rfl); (first | (with_reducible assumption) | omega | (focus (simp; done)) | (focus (simp; omega; done)) | decide); intro ws _ _))
              refine ret_row_ rfl rfl rfl (n := 3) rfl rfl ?_
              rw [HRd.out]
              unfold KDecPost dOk
              rw [hcw, ← HLF.out, hci]
              refine ⟨stepN, L, M, lc, mc, rfl, ?_, ?_, hNL, hNM⟩
              · rw [show dL b = LL from HLLd.out.symm]
                infer_instance
              · rw [show dP b = PP from HPPd.out.symm]
                infer_instance
end Go.Proofs.Ythcleccofccbdaa
