/- The law's act, in both. -/
import Derived.Test.YtekjahofghmdgaaPgP
import Derived.Test.YtekjahofghmdgaaPgLong
open Go Go.RowKit
namespace Go.Proofs.Ytekjahofghmdgaa
instance : RowC ActS := ⟨5, ActS.cells, fun _ => rfl, fun a u hu => by
  simp only [ActS.cells, List.mem_cons, List.not_mem_nil, or_false] at hu
  rcases hu with rfl | rfl | rfl | rfl | rfl <;> rfl, ⟨0, 0, none, 0, [], 0, 0⟩⟩
instance : RowT Try.prog 31 5 := ⟨by kernel_rfl, _, Try.underlying31, rfl⟩
/-- what an act writes of old -/
def PT (g p : Nat) (T : Nat → Prop) : Nat → Prop := fun k => Two g p k ∨ T k
instance (w : World) (g p : Nat) (T : Nat → Prop) : Sub w (Two g p) (PT g p T) := ⟨fun _ _ h => .inl h⟩
instance (w : World) (g p : Nat) (T : Nat → Prop) : Sub w T (PT g p T) := ⟨fun _ _ h => .inr h⟩
instance (w : World) (g p : Nat) (T : Nat → Prop) : Into w (Two g p) (PT g p T) := ⟨fun _ _ h => .inl h⟩
instance (w : World) (g p : Nat) (T : Nat → Prop) : Into w T (PT g p T) := ⟨fun _ _ h => .inr h⟩
instance (w : World) (T : Nat → Prop) : Into w T T := ⟨fun _ _ h => h⟩
theorem FlashAt.nw {w0 w : World} [n : Nw w0 w] {g p N : Nat} {s : FS} (h : FlashAt w0 g p N s) : FlashAt w g p N s := h.calm n.out
theorem FlashAt.ch {w0 w : World} {S : Nat → Prop} [c : Ch S w0 w] {g p N : Nat} {s : FS} (h : FlashAt w0 g p N s) (hg : ¬ S g) (hp : ¬ S p) : FlashAt w g p N s := h.chg c.out hg hp
theorem RF.nw {w0 w : World} [n : Nw w0 w] {x : Nat} {T : Nat → Prop} {s : RFS} (h : RF w0 x T s) : RF w x T s := h.calm n.out
theorem RF.ch {w0 w : World} {S : Nat → Prop} [c : Ch S w0 w] {x : Nat} {T : Nat → Prop} {s : RFS} (h : RF w0 x T s) (hS : ∀ k, T k → ¬ S k) : RF w x T s := h.far c.out hS
theorem FlashAt.lts {w : World} {g p N : Nat} {s : FS} (h : FlashAt w g p N s) : g < w.heap.size ∧ p < w.heap.size := ⟨h.head.lt, Blk.lt h.body⟩
def ActPost (g p N x : Nat) (T : Nat → Prop) (w w' : World) (e : Ending) : Prop := e = .returned (.bool true) ∧ ∃ s' r', FlashAt w' g p N s' ∧ RF w' x T r' ∧ Rel s' r' N ∧ Chg (PT g p T) w w'
set_option maxRecDepth 100000 in
set_option maxHeartbeats 1600000 in
theorem pgAct_calls {w : World} {g p N x : Nat} {s : FS} {T : Nat → Prop} {r : RFS} (hF : FlashAt w g p N s) (hX : RF w x T r) (hR : Rel s r N) (hT : ∀ k, T k → ¬ Two g p k) (hTl : ∀ k, T k → k < w.heap.size) (a : ActS) [ha : HR w a.A (bs a.b)] (hap : Apart (Two g p) a.A (bs a.b)) (hap2 : Apart T a.A (bs a.b)) (hlen : a.b.length ≤ 9223372036854775807) (hn : a.n ≤ 9223372036854775807) :
    Calls Try.prog 19 #[.pointer (some ⟨g, 0, none⟩), .pointer (some ⟨x, 0, none⟩), .agg (RowC.enc a).toArray] w fun e w' => ActPost g p N x T w w' e := by
  obtain ⟨kind, i, A, c, b, n, tear⟩ := a
  obtain ⟨nb, hnb⟩ : ∃ nb, nb = b.length := ⟨_, rfl⟩
  show Calls _ _ #[_, _, .agg #[.int .i64 kind, .int .i64 i, .slice A b.length c, .int .i64 n, .int .i64 tear]] _ _
  have hlen1 : b.length ≤ 9223372036854775807 := hlen
  have hn1 : n ≤ 9223372036854775807 := hn
  have ha1 : HR w A (bs b) := ha
  have hp1 : Apart (Two g p) A (bs b) := hap
  have hp2 : Apart T A (bs b) := hap2
  clear hlen hn ha hap hap2
  obtain ⟨hgl, hpl⟩ := hF.lts
  obtain ⟨hlo, hhi⟩ := hR.bounds hF.ok
  have hTg : ¬ T g := fun h => hT g h (.inl rfl)
  have hTp : ¬ T p := fun h => hT p h (.inr rfl)
  have o1 : OffR (Two g p) A (bs b) := ⟨hp1⟩
  have o2 : OffR T A (bs b) := ⟨hp2⟩
  have o3 : OffR (PT g p T) A (bs b) := ⟨fun hne ad e hk => hk.elim (hp1 hne ad e) (hp2 hne ad e)⟩
  have HF := Lib.hid hF
  have HX := Lib.hid hX
  have HE1 := Lib.hid (hR.act hF.ok i 64 erD erF (deals_er N 64))
  have HE2 := Lib.hid (hR.act hF.ok i b.length (prD b) (prF b) (deals_pr b N))
  have HRel := Lib.hid hR
  have HT := Lib.hid hT
  have HTL := Lib.hid hTl
  have HNB := Lib.hid hnb
  rw [← hnb] at hlen1 ⊢
  clear hF hX hR hT hTl hnb hp1 hp2
  go_enter Try.func19, Try.ntmps19
  by_cases h1 : kind = 1
  · subst h1
    go_wp2_with (first | ((with_reducible apply (wpl_box_agg (dst := some 5))); (exact rfl); intro z5 wz5 _ _ _) | ((with_reducible apply (wpl_box_int (dst := some 5))); (exact rfl); intro z5 wz5 _ _ _) | ((with_reducible apply (wpl_box_slice (dst := some 5))); (exact rfl); intro z5 wz5 _ _ _) | ((with_reducible apply (wpl_box_str (dst := some 5))); (exact rfl); intro z5 wz5 _ _ _) | ((with_reducible apply (wpl_box_bool (dst := some 5))); (exact rfl); intro z5 wz5 _ _ _) | ((with_reducible apply (wpl_box_ptr (dst := some 5))); (exact rfl); intro z5 wz5 _ _ _) | ((with_reducible apply wpl_box_agg); (exact rfl); intro z wz _ _ _) | ((with_reducible apply wpl_box_int); (exact rfl); intro z wz _ _ _) | ((with_reducible apply wpl_box_slice); (exact rfl); intro z wz _ _ _) | ((with_reducible apply wpl_box_str); (exact rfl); intro z wz _ _ _) | ((with_reducible apply wpl_box_bool); (exact rfl); intro z wz _ _ _) | ((with_reducible apply wpl_box_ptr); (exact rfl); intro z wz _ _ _) | ((with_reducible apply wpl_loadrow); (exact rfl); (exact inferInstance); (exact inferInstance); (first | (with_reducible assumption) | (with_reducible exact H32.size _) | kernel_rfl)) | ((with_reducible apply wpl_loadcellN); (exact rfl); (exact inferInstance); (exact rfl)))
    have hz5 : z5 = w.heap.size := (inferInstance : Born w z5).eq
    have oz1 : OffB (Two g p) z5 := ⟨fun h => by rcases h with h | h <;> omega⟩
    have oz2 : OffB T z5 := ⟨fun h => by have := HTL.out _ h; omega⟩
    have oz3 : OffB (PT g p T) z5 := ⟨fun h => h.elim oz1.out oz2.out⟩
    obtain ⟨cd, hcd⟩ : ∃ cd, cd = (s.change N i 64 erD).1 := ⟨_, rfl⟩
    have HCD := Lib.hid hcd
    clear hz5 hcd
    have hcd : (r.act i 64 erF).1 = cd := by rw [HCD.out]; exact HE1.out.1.symm
    have HCR := Lib.hid hcd
    clear hcd
    refine wp_region_N ((PT g p T)) (by kernel_rfl) (fun wd _ _ => ?_)
    refine' takeH (i := 0) (v := _) rfl (by kernel_rfl) (by kernel_rfl) (by kernel_rfl) (fun _ _ _ h => h) (yields_of (by rfl) (fun w' _ => ?_)) inferInstance ?_
    rotate_left
    · (go_simp; try with_reducible rfl)
    try simp only [Act.put, List.setIfInBounds_toArray]; try simp only [List.set_cons_succ, List.set_cons_zero]
    refine' takeH (i := 1) (v := _) rfl (by kernel_rfl) (by kernel_rfl) (by kernel_rfl) (fun _ _ _ h => h) (yields_of (by rfl) (fun w' _ => ?_)) inferInstance ?_
    rotate_left
    · (go_simp; try with_reducible rfl)
    try simp only [Act.put, List.setIfInBounds_toArray]; try simp only [List.set_cons_succ, List.set_cons_zero]
    refine' takeH (i := 2) (v := _) rfl (by kernel_rfl) (by kernel_rfl) (by kernel_rfl) (fun _ _ _ h => h) (yields_of (by rfl) (fun w' _ => ?_)) inferInstance ?_
    rotate_left
    · (first | ((with_reducible apply ev_loadrow); (exact rfl); (exact inferInstance); (exact inferInstance); (first | (with_reducible assumption) | (with_reducible exact H32.size _) | kernel_rfl)) | ((with_reducible apply (ev_loadhash (t := 68))); (exact rfl); (exact inferInstance); (exact inferInstance); (first | (with_reducible assumption) | omega)) | ((with_reducible apply ev_loadcellN); (exact rfl); (exact inferInstance); (exact inferInstance); (exact rfl)) | ((with_reducible apply (ev_loadint (t := 3))); (exact rfl); (exact inferInstance); (exact inferInstance); (first | (with_reducible assumption) | omega)) | ((with_reducible apply (ev_loadbyte (t := 5))); (exact rfl); (exact inferInstance); (exact inferInstance); (first | (with_reducible assumption) | omega)) | (go_simp; try with_reducible rfl))
    try simp only [Act.put, List.setIfInBounds_toArray]; try simp only [List.set_cons_succ, List.set_cons_zero]
    refine' takeH (i := 4) (v := _) rfl (by kernel_rfl) (by kernel_rfl) (by kernel_rfl) (fun _ _ _ h => h) (yields_of (by rfl) (fun w' _ => ?_)) inferInstance ?_
    rotate_left
    · (go_simp; try with_reducible rfl)
    try simp only [Act.put, List.setIfInBounds_toArray]; try simp only [List.set_cons_succ, List.set_cons_zero]
    refine' takeH (i := 5) (v := _) rfl (by kernel_rfl) (by kernel_rfl) (by kernel_rfl) (fun _ _ _ h => h) (yields_of (by rfl) (fun w' _ => ?_)) inferInstance ?_
    rotate_left
    · (go_simp; try with_reducible rfl)
    try simp only [Act.put, List.setIfInBounds_toArray]; try simp only [List.set_cons_succ, List.set_cons_zero]
    refine' takeH (i := 6) (v := _) rfl (by kernel_rfl) (by kernel_rfl) (by kernel_rfl) (fun _ _ _ h => h) (yields_of (by rfl) (fun w' _ => ?_)) inferInstance ?_
    rotate_left
    · (first | ((with_reducible apply ev_loadrow); (exact rfl); (exact inferInstance); (exact inferInstance); (first | (with_reducible assumption) | (with_reducible exact H32.size _) | kernel_rfl)) | ((with_reducible apply (ev_loadhash (t := 68))); (exact rfl); (exact inferInstance); (exact inferInstance); (first | (with_reducible assumption) | omega)) | ((with_reducible apply ev_loadcellN); (exact rfl); (exact inferInstance); (exact inferInstance); (exact rfl)) | ((with_reducible apply (ev_loadint (t := 3))); (exact rfl); (exact inferInstance); (exact inferInstance); (first | (with_reducible assumption) | omega)) | ((with_reducible apply (ev_loadbyte (t := 5))); (exact rfl); (exact inferInstance); (exact inferInstance); (first | (with_reducible assumption) | omega)) | (go_simp; try with_reducible rfl))
    try simp only [Act.put, List.setIfInBounds_toArray]; try simp only [List.set_cons_succ, List.set_cons_zero]
    refine goH (i := 3) (by kernel_rfl) rfl (fun K_ hK_ => ?_)
    go_simp
    refine (Erase_calls g p N s i _ (FlashAt.nw HF.out)).mono ?_
    rw [← HCD.out]
    rintro e w5 ⟨rfl, HF5, hc5⟩
    have s5 : Step (Two g p) _ w5 := ⟨hc5.out⟩
    clear hc5
    refine hK_.out _ _ inferInstance (fun _ => ?_)
    clear hK_ K_
    try simp only [Act.put, List.setIfInBounds_toArray]; try simp only [List.set_cons_succ, List.set_cons_zero]
    refine goH (i := 7) (by kernel_rfl) rfl (fun K_ hK_ => ?_)
    go_simp
    refine (rfErase_calls (RF.ch (S := Two g p) HX.out HT.out) i hlo hhi).mono ?_
    rw [HCR.out]
    rintro e w6 ⟨rfl, HX6, hc6⟩
    have s6 : Step T _ w6 := ⟨hc6⟩
    have HX6 := Lib.hid HX6
    have HF6 := Lib.hid (HF5.out.chg hc6 hTg hTp)
    clear HF5 hc6
    refine hK_.out _ _ inferInstance (fun _ => ?_)
    clear hK_ K_
    try simp only [Act.put, List.setIfInBounds_toArray]; try simp only [List.set_cons_succ, List.set_cons_zero]
    refine' takeH (i := 8) (v := _) rfl (by kernel_rfl) (by kernel_rfl) (by kernel_rfl) (fun _ _ _ h => h) (yields_of (by rfl) (fun w' _ => ?_)) inferInstance ?_
    rotate_left
    · (go_simp; try with_reducible rfl)
    try simp only [Act.put, List.setIfInBounds_toArray]; try simp only [List.set_cons_succ, List.set_cons_zero]
    refine' takeH (i := 9) (v := _) rfl (by kernel_rfl) (by kernel_rfl) (by kernel_rfl) (fun _ _ _ h => h) (yields_of (by rfl) (fun w' _ => ?_)) inferInstance ?_
    rotate_left
    · (go_simp; try with_reducible rfl)
    try simp only [Act.put, List.setIfInBounds_toArray]; try simp only [List.set_cons_succ, List.set_cons_zero]
    refine wpAnyH_done (by kernel_rfl) ?_ _
    go_wp2_with (first | ((with_reducible apply wpl_box_agg); (exact rfl); intro z wz _ _ _) | ((with_reducible apply wpl_box_int); (exact rfl); intro z wz _ _ _) | ((with_reducible apply wpl_box_slice); (exact rfl); intro z wz _ _ _) | ((with_reducible apply wpl_box_str); (exact rfl); intro z wz _ _ _) | ((with_reducible apply wpl_box_bool); (exact rfl); intro z wz _ _ _) | ((with_reducible apply wpl_box_ptr); (exact rfl); intro z wz _ _ _) | ((with_reducible apply wpl_loadrow); (exact rfl); (exact inferInstance); (exact inferInstance); (first | (with_reducible assumption) | (with_reducible exact H32.size _) | kernel_rfl)) | ((with_reducible apply wpl_loadcellN); (exact rfl); (exact inferInstance); (exact rfl)))
    go_ret
    exact ⟨rfl, _, _, FlashAt.nw HF6.out, RF.nw HX6.out, HE1.out.2, (inferInstance : Ch (PT g p T) w _).out⟩
  · by_cases h2 : kind = 2
    · subst h2
      go_wp2_with (first | ((with_reducible apply (wpl_box_agg (dst := some 5))); (exact rfl); intro z5 wz5 _ _ _) | ((with_reducible apply (wpl_box_int (dst := some 5))); (exact rfl); intro z5 wz5 _ _ _) | ((with_reducible apply (wpl_box_slice (dst := some 5))); (exact rfl); intro z5 wz5 _ _ _) | ((with_reducible apply (wpl_box_str (dst := some 5))); (exact rfl); intro z5 wz5 _ _ _) | ((with_reducible apply (wpl_box_bool (dst := some 5))); (exact rfl); intro z5 wz5 _ _ _) | ((with_reducible apply (wpl_box_ptr (dst := some 5))); (exact rfl); intro z5 wz5 _ _ _) | ((with_reducible apply wpl_box_agg); (exact rfl); intro z wz _ _ _) | ((with_reducible apply wpl_box_int); (exact rfl); intro z wz _ _ _) | ((with_reducible apply wpl_box_slice); (exact rfl); intro z wz _ _ _) | ((with_reducible apply wpl_box_str); (exact rfl); intro z wz _ _ _) | ((with_reducible apply wpl_box_bool); (exact rfl); intro z wz _ _ _) | ((with_reducible apply wpl_box_ptr); (exact rfl); intro z wz _ _ _) | ((with_reducible apply wpl_loadrow); (exact rfl); (exact inferInstance); (exact inferInstance); (first | (with_reducible assumption) | (with_reducible exact H32.size _) | kernel_rfl)) | ((with_reducible apply wpl_loadcellN); (exact rfl); (exact inferInstance); (exact rfl)))
      have hz5 : z5 = w.heap.size := (inferInstance : Born w z5).eq
      have oz1 : OffB (Two g p) z5 := ⟨fun h => by rcases h with h | h <;> omega⟩
      have oz2 : OffB T z5 := ⟨fun h => by have := HTL.out _ h; omega⟩
      have oz3 : OffB (PT g p T) z5 := ⟨fun h => h.elim oz1.out oz2.out⟩
      obtain ⟨cd, hcd⟩ : ∃ cd, cd = (s.change N i nb (prD b)).1 := ⟨_, rfl⟩
      have HCD := Lib.hid hcd
      clear hz5 hcd
      have hcd : (r.act i nb (prF b)).1 = cd := by rw [HCD.out, HNB.out]; exact HE2.out.1.symm
      have HCR := Lib.hid hcd
      clear hcd
      refine wp_region_N ((PT g p T)) (by kernel_rfl) (fun wd _ _ => ?_)
      refine' takeH (i := 0) (v := _) rfl (by kernel_rfl) (by kernel_rfl) (by kernel_rfl) (fun _ _ _ h => h) (yields_of (by rfl) (fun w' _ => ?_)) inferInstance ?_
      rotate_left
      · (go_simp; try with_reducible rfl)
      try simp only [Act.put, List.setIfInBounds_toArray]; try simp only [List.set_cons_succ, List.set_cons_zero]
      refine' takeH (i := 1) (v := _) rfl (by kernel_rfl) (by kernel_rfl) (by kernel_rfl) (fun _ _ _ h => h) (yields_of (by rfl) (fun w' _ => ?_)) inferInstance ?_
      rotate_left
      · (go_simp; try with_reducible rfl)
      try simp only [Act.put, List.setIfInBounds_toArray]; try simp only [List.set_cons_succ, List.set_cons_zero]
      refine' takeH (i := 2) (v := _) rfl (by kernel_rfl) (by kernel_rfl) (by kernel_rfl) (fun _ _ _ h => h) (yields_of (by rfl) (fun w' _ => ?_)) inferInstance ?_
      rotate_left
      · (first | ((with_reducible apply ev_loadrow); (exact rfl); (exact inferInstance); (exact inferInstance); (first | (with_reducible assumption) | (with_reducible exact H32.size _) | kernel_rfl)) | ((with_reducible apply (ev_loadhash (t := 68))); (exact rfl); (exact inferInstance); (exact inferInstance); (first | (with_reducible assumption) | omega)) | ((with_reducible apply ev_loadcellN); (exact rfl); (exact inferInstance); (exact inferInstance); (exact rfl)) | ((with_reducible apply (ev_loadint (t := 3))); (exact rfl); (exact inferInstance); (exact inferInstance); (first | (with_reducible assumption) | omega)) | ((with_reducible apply (ev_loadbyte (t := 5))); (exact rfl); (exact inferInstance); (exact inferInstance); (first | (with_reducible assumption) | omega)) | (go_simp; try with_reducible rfl))
      try simp only [Act.put, List.setIfInBounds_toArray]; try simp only [List.set_cons_succ, List.set_cons_zero]
      refine' takeH (i := 3) (v := _) rfl (by kernel_rfl) (by kernel_rfl) (by kernel_rfl) (fun _ _ _ h => h) (yields_of (by rfl) (fun w' _ => ?_)) inferInstance ?_
      rotate_left
      · (go_simp; try with_reducible rfl)
      try simp only [Act.put, List.setIfInBounds_toArray]; try simp only [List.set_cons_succ, List.set_cons_zero]
      refine' takeH (i := 4) (v := _) rfl (by kernel_rfl) (by kernel_rfl) (by kernel_rfl) (fun _ _ _ h => h) (yields_of (by rfl) (fun w' _ => ?_)) inferInstance ?_
      rotate_left
      · (first | ((with_reducible apply ev_loadrow); (exact rfl); (exact inferInstance); (exact inferInstance); (first | (with_reducible assumption) | (with_reducible exact H32.size _) | kernel_rfl)) | ((with_reducible apply (ev_loadhash (t := 68))); (exact rfl); (exact inferInstance); (exact inferInstance); (first | (with_reducible assumption) | omega)) | ((with_reducible apply ev_loadcellN); (exact rfl); (exact inferInstance); (exact inferInstance); (exact rfl)) | ((with_reducible apply (ev_loadint (t := 3))); (exact rfl); (exact inferInstance); (exact inferInstance); (first | (with_reducible assumption) | omega)) | ((with_reducible apply (ev_loadbyte (t := 5))); (exact rfl); (exact inferInstance); (exact inferInstance); (first | (with_reducible assumption) | omega)) | (go_simp; try with_reducible rfl))
      try simp only [Act.put, List.setIfInBounds_toArray]; try simp only [List.set_cons_succ, List.set_cons_zero]
      refine' takeH (i := 6) (v := _) rfl (by kernel_rfl) (by kernel_rfl) (by kernel_rfl) (fun _ _ _ h => h) (yields_of (by rfl) (fun w' _ => ?_)) inferInstance ?_
      rotate_left
      · (go_simp; try with_reducible rfl)
      try simp only [Act.put, List.setIfInBounds_toArray]; try simp only [List.set_cons_succ, List.set_cons_zero]
      refine' takeH (i := 7) (v := _) rfl (by kernel_rfl) (by kernel_rfl) (by kernel_rfl) (fun _ _ _ h => h) (yields_of (by rfl) (fun w' _ => ?_)) inferInstance ?_
      rotate_left
      · (go_simp; try with_reducible rfl)
      try simp only [Act.put, List.setIfInBounds_toArray]; try simp only [List.set_cons_succ, List.set_cons_zero]
      refine' takeH (i := 8) (v := _) rfl (by kernel_rfl) (by kernel_rfl) (by kernel_rfl) (fun _ _ _ h => h) (yields_of (by rfl) (fun w' _ => ?_)) inferInstance ?_
      rotate_left
      · (first | ((with_reducible apply ev_loadrow); (exact rfl); (exact inferInstance); (exact inferInstance); (first | (with_reducible assumption) | (with_reducible exact H32.size _) | kernel_rfl)) | ((with_reducible apply (ev_loadhash (t := 68))); (exact rfl); (exact inferInstance); (exact inferInstance); (first | (with_reducible assumption) | omega)) | ((with_reducible apply ev_loadcellN); (exact rfl); (exact inferInstance); (exact inferInstance); (exact rfl)) | ((with_reducible apply (ev_loadint (t := 3))); (exact rfl); (exact inferInstance); (exact inferInstance); (first | (with_reducible assumption) | omega)) | ((with_reducible apply (ev_loadbyte (t := 5))); (exact rfl); (exact inferInstance); (exact inferInstance); (first | (with_reducible assumption) | omega)) | (go_simp; try with_reducible rfl))
      try simp only [Act.put, List.setIfInBounds_toArray]; try simp only [List.set_cons_succ, List.set_cons_zero]
      refine' takeH (i := 9) (v := _) rfl (by kernel_rfl) (by kernel_rfl) (by kernel_rfl) (fun _ _ _ h => h) (yields_of (by rfl) (fun w' _ => ?_)) inferInstance ?_
      rotate_left
      · (go_simp; try with_reducible rfl)
      try simp only [Act.put, List.setIfInBounds_toArray]; try simp only [List.set_cons_succ, List.set_cons_zero]
      refine' takeH (i := 10) (v := _) rfl (by kernel_rfl) (by kernel_rfl) (by kernel_rfl) (fun _ _ _ h => h) (yields_of (by rfl) (fun w' _ => ?_)) inferInstance ?_
      rotate_left
      · (first | ((with_reducible apply ev_loadrow); (exact rfl); (exact inferInstance); (exact inferInstance); (first | (with_reducible assumption) | (with_reducible exact H32.size _) | kernel_rfl)) | ((with_reducible apply (ev_loadhash (t := 68))); (exact rfl); (exact inferInstance); (exact inferInstance); (first | (with_reducible assumption) | omega)) | ((with_reducible apply ev_loadcellN); (exact rfl); (exact inferInstance); (exact inferInstance); (exact rfl)) | ((with_reducible apply (ev_loadint (t := 3))); (exact rfl); (exact inferInstance); (exact inferInstance); (first | (with_reducible assumption) | omega)) | ((with_reducible apply (ev_loadbyte (t := 5))); (exact rfl); (exact inferInstance); (exact inferInstance); (first | (with_reducible assumption) | omega)) | (go_simp; try with_reducible rfl))
      try simp only [Act.put, List.setIfInBounds_toArray]; try simp only [List.set_cons_succ, List.set_cons_zero]
      refine goH (i := 5) (by kernel_rfl) rfl (fun K_ hK_ => ?_)
      go_simp
      refine (Program_calls g p N s i A nb c b _ (FlashAt.nw HF.out) (inferInstance : HR _ A (bs b)).out HNB.out.symm o1.out hlen1).mono ?_
      rw [← HCD.out]
      rintro e w5 ⟨rfl, HF5, hc5⟩
      have s5 : Step (Two g p) _ w5 := ⟨hc5.out⟩
      clear hc5
      refine hK_.out _ _ inferInstance (fun _ => ?_)
      clear hK_ K_
      try simp only [Act.put, List.setIfInBounds_toArray]; try simp only [List.set_cons_succ, List.set_cons_zero]
      refine goH (i := 11) (by kernel_rfl) rfl (fun K_ hK_ => ?_)
      go_simp
      refine (rfProgram_calls (RF.ch (S := Two g p) HX.out HT.out) i HNB.out.symm o2.out hlen1 hlo hhi).mono ?_
      rw [HCR.out]
      rintro e w6 ⟨rfl, HX6, hc6⟩
      have s6 : Step T _ w6 := ⟨hc6⟩
      have HX6 := Lib.hid HX6
      have HF6 := Lib.hid (HF5.out.chg hc6 hTg hTp)
      clear HF5 hc6
      refine hK_.out _ _ inferInstance (fun _ => ?_)
      clear hK_ K_
      try simp only [Act.put, List.setIfInBounds_toArray]; try simp only [List.set_cons_succ, List.set_cons_zero]
      refine' takeH (i := 12) (v := _) rfl (by kernel_rfl) (by kernel_rfl) (by kernel_rfl) (fun _ _ _ h => h) (yields_of (by rfl) (fun w' _ => ?_)) inferInstance ?_
      rotate_left
      · (go_simp; try with_reducible rfl)
      try simp only [Act.put, List.setIfInBounds_toArray]; try simp only [List.set_cons_succ, List.set_cons_zero]
      refine' takeH (i := 13) (v := _) rfl (by kernel_rfl) (by kernel_rfl) (by kernel_rfl) (fun _ _ _ h => h) (yields_of (by rfl) (fun w' _ => ?_)) inferInstance ?_
      rotate_left
      · (go_simp; try with_reducible rfl)
      try simp only [Act.put, List.setIfInBounds_toArray]; try simp only [List.set_cons_succ, List.set_cons_zero]
      refine wpAnyH_done (by kernel_rfl) ?_ _
      go_wp2_with (first | ((with_reducible apply wpl_box_agg); (exact rfl); intro z wz _ _ _) | ((with_reducible apply wpl_box_int); (exact rfl); intro z wz _ _ _) | ((with_reducible apply wpl_box_slice); (exact rfl); intro z wz _ _ _) | ((with_reducible apply wpl_box_str); (exact rfl); intro z wz _ _ _) | ((with_reducible apply wpl_box_bool); (exact rfl); intro z wz _ _ _) | ((with_reducible apply wpl_box_ptr); (exact rfl); intro z wz _ _ _) | ((with_reducible apply wpl_loadrow); (exact rfl); (exact inferInstance); (exact inferInstance); (first | (with_reducible assumption) | (with_reducible exact H32.size _) | kernel_rfl)) | ((with_reducible apply wpl_loadcellN); (exact rfl); (exact inferInstance); (exact rfl)))
      go_ret
      refine ⟨rfl, _, _, FlashAt.nw HF6.out, RF.nw HX6.out, ?_, (inferInstance : Ch (PT g p T) w _).out⟩
      rw [HNB.out]
      exact HE2.out.2
    · by_cases h3 : kind = 3
      · subst h3
        go_wp2_with (first | ((with_reducible apply (wpl_box_agg (dst := some 5))); (exact rfl); intro z5 wz5 _ _ _) | ((with_reducible apply (wpl_box_int (dst := some 5))); (exact rfl); intro z5 wz5 _ _ _) | ((with_reducible apply (wpl_box_slice (dst := some 5))); (exact rfl); intro z5 wz5 _ _ _) | ((with_reducible apply (wpl_box_str (dst := some 5))); (exact rfl); intro z5 wz5 _ _ _) | ((with_reducible apply (wpl_box_bool (dst := some 5))); (exact rfl); intro z5 wz5 _ _ _) | ((with_reducible apply (wpl_box_ptr (dst := some 5))); (exact rfl); intro z5 wz5 _ _ _) | ((with_reducible apply wpl_box_agg); (exact rfl); intro z wz _ _ _) | ((with_reducible apply wpl_box_int); (exact rfl); intro z wz _ _ _) | ((with_reducible apply wpl_box_slice); (exact rfl); intro z wz _ _ _) | ((with_reducible apply wpl_box_str); (exact rfl); intro z wz _ _ _) | ((with_reducible apply wpl_box_bool); (exact rfl); intro z wz _ _ _) | ((with_reducible apply wpl_box_ptr); (exact rfl); intro z wz _ _ _) | ((with_reducible apply wpl_loadrow); (exact rfl); (exact inferInstance); (exact inferInstance); (first | (with_reducible assumption) | (with_reducible exact H32.size _) | kernel_rfl)) | ((with_reducible apply wpl_loadcellN); (exact rfl); (exact inferInstance); (exact rfl)))
        have hz5 : z5 = w.heap.size := (inferInstance : Born w z5).eq
        have oz1 : OffB (Two g p) z5 := ⟨fun h => by rcases h with h | h <;> omega⟩
        refine (Fuse_calls g p N s n tear _ (FlashAt.nw HF.out) hn1).mono ?_
        rintro e w5 ⟨rfl, HF5, hc5⟩
        have s5 : Step (Two g p) _ w5 := ⟨hc5.out⟩
        clear hc5 hz5
        go_wp2_with (first | ((with_reducible apply wpl_box_agg); (exact rfl); intro z wz _ _ _) | ((with_reducible apply wpl_box_int); (exact rfl); intro z wz _ _ _) | ((with_reducible apply wpl_box_slice); (exact rfl); intro z wz _ _ _) | ((with_reducible apply wpl_box_str); (exact rfl); intro z wz _ _ _) | ((with_reducible apply wpl_box_bool); (exact rfl); intro z wz _ _ _) | ((with_reducible apply wpl_box_ptr); (exact rfl); intro z wz _ _ _) | ((with_reducible apply wpl_loadrow); (exact rfl); (exact inferInstance); (exact inferInstance); (first | (with_reducible assumption) | (with_reducible exact H32.size _) | kernel_rfl)) | ((with_reducible apply wpl_loadcellN); (exact rfl); (exact inferInstance); (exact rfl)))
        refine (rfFuse_calls (RF.ch (S := Two g p) HX.out HT.out) n tear).mono ?_
        rintro e w6 ⟨rfl, HX6, hc6⟩
        have s6 : Step T _ w6 := ⟨hc6⟩
        have HX6 := Lib.hid HX6
        have HF6 := Lib.hid (FlashAt.chg (FlashAt.nw HF5.out) hc6 hTg hTp)
        go_wp2_with (first | ((with_reducible apply wpl_box_agg); (exact rfl); intro z wz _ _ _) | ((with_reducible apply wpl_box_int); (exact rfl); intro z wz _ _ _) | ((with_reducible apply wpl_box_slice); (exact rfl); intro z wz _ _ _) | ((with_reducible apply wpl_box_str); (exact rfl); intro z wz _ _ _) | ((with_reducible apply wpl_box_bool); (exact rfl); intro z wz _ _ _) | ((with_reducible apply wpl_box_ptr); (exact rfl); intro z wz _ _ _) | ((with_reducible apply wpl_loadrow); (exact rfl); (exact inferInstance); (exact inferInstance); (first | (with_reducible assumption) | (with_reducible exact H32.size _) | kernel_rfl)) | ((with_reducible apply wpl_loadcellN); (exact rfl); (exact inferInstance); (exact rfl)))
        go_ret
        exact ⟨rfl, _, _, FlashAt.nw HF6.out, RF.nw HX6.out, HRel.out.fuse n tear, (inferInstance : Ch (PT g p T) w _).out⟩
      · have e1 : (kind == 1) = false := by simpa using h1
        have e2 : (kind == 2) = false := by simpa using h2
        have e3 : (kind == 3) = false := by simpa using h3
        go_wp2_with (first | ((with_reducible apply (wpl_box_agg (dst := some 5))); (exact rfl); intro z5 wz5 _ _ _) | ((with_reducible apply (wpl_box_int (dst := some 5))); (exact rfl); intro z5 wz5 _ _ _) | ((with_reducible apply (wpl_box_slice (dst := some 5))); (exact rfl); intro z5 wz5 _ _ _) | ((with_reducible apply (wpl_box_str (dst := some 5))); (exact rfl); intro z5 wz5 _ _ _) | ((with_reducible apply (wpl_box_bool (dst := some 5))); (exact rfl); intro z5 wz5 _ _ _) | ((with_reducible apply (wpl_box_ptr (dst := some 5))); (exact rfl); intro z5 wz5 _ _ _) | ((with_reducible apply wpl_box_agg); (exact rfl); intro z wz _ _ _) | ((with_reducible apply wpl_box_int); (exact rfl); intro z wz _ _ _) | ((with_reducible apply wpl_box_slice); (exact rfl); intro z wz _ _ _) | ((with_reducible apply wpl_box_str); (exact rfl); intro z wz _ _ _) | ((with_reducible apply wpl_box_bool); (exact rfl); intro z wz _ _ _) | ((with_reducible apply wpl_box_ptr); (exact rfl); intro z wz _ _ _) | ((with_reducible apply wpl_loadrow); (exact rfl); (exact inferInstance); (exact inferInstance); (first | (with_reducible assumption) | (with_reducible exact H32.size _) | kernel_rfl)) | ((with_reducible apply wpl_loadcellN); (exact rfl); (exact inferInstance); (exact rfl)))
        refine (Boot_calls g p N s _ (FlashAt.nw HF.out)).mono ?_
        rintro e w5 ⟨rfl, HF5, hc5⟩
        have s5 : Step (Two g p) _ w5 := ⟨hc5.out⟩
        clear hc5
        go_wp2_with (first | ((with_reducible apply wpl_box_agg); (exact rfl); intro z wz _ _ _) | ((with_reducible apply wpl_box_int); (exact rfl); intro z wz _ _ _) | ((with_reducible apply wpl_box_slice); (exact rfl); intro z wz _ _ _) | ((with_reducible apply wpl_box_str); (exact rfl); intro z wz _ _ _) | ((with_reducible apply wpl_box_bool); (exact rfl); intro z wz _ _ _) | ((with_reducible apply wpl_box_ptr); (exact rfl); intro z wz _ _ _) | ((with_reducible apply wpl_loadrow); (exact rfl); (exact inferInstance); (exact inferInstance); (first | (with_reducible assumption) | (with_reducible exact H32.size _) | kernel_rfl)) | ((with_reducible apply wpl_loadcellN); (exact rfl); (exact inferInstance); (exact rfl)))
        refine (rfBoot_calls (RF.ch (S := Two g p) HX.out HT.out)).mono ?_
        rintro e w6 ⟨rfl, HX6, hc6⟩
        have s6 : Step T _ w6 := ⟨hc6⟩
        have HX6 := Lib.hid HX6
        have HF6 := Lib.hid (FlashAt.chg (FlashAt.nw HF5.out) hc6 hTg hTp)
        go_wp2_with (first | ((with_reducible apply wpl_box_agg); (exact rfl); intro z wz _ _ _) | ((with_reducible apply wpl_box_int); (exact rfl); intro z wz _ _ _) | ((with_reducible apply wpl_box_slice); (exact rfl); intro z wz _ _ _) | ((with_reducible apply wpl_box_str); (exact rfl); intro z wz _ _ _) | ((with_reducible apply wpl_box_bool); (exact rfl); intro z wz _ _ _) | ((with_reducible apply wpl_box_ptr); (exact rfl); intro z wz _ _ _) | ((with_reducible apply wpl_loadrow); (exact rfl); (exact inferInstance); (exact inferInstance); (first | (with_reducible assumption) | (with_reducible exact H32.size _) | kernel_rfl)) | ((with_reducible apply wpl_loadcellN); (exact rfl); (exact inferInstance); (exact rfl)))
        go_ret
        exact ⟨rfl, _, _, FlashAt.nw HF6.out, RF.nw HX6.out, HRel.out.boot, (inferInstance : Ch (PT g p T) w _).out⟩
end Go.Proofs.Ytekjahofghmdgaa
