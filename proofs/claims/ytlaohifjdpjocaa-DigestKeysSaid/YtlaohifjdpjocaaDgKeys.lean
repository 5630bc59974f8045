/- Keys of the digest (the law DigestKeys). -/
import Derived.Test.YtlaohifjdpjocaaDgSums
import Derived.Test.YtlaohifjdpjocaaNots
import Derived.Deep.RegionWith
open Go Go.RowKit
namespace Go.Proofs.Ytlaohifjdpjocaa
theorem keyOf_sha (key : List UInt8) (h : 64 < key.length) : keyOf (sha key) = keyOf key := by
  unfold keyOf
  rw [if_pos (by rw [sha_len]; decide), if_neg (by omega), sha_len]
theorem mac_sha (key p : List UInt8) (h : 64 < key.length) : macOf (sha key) p = macOf key p := by
  unfold macOf
  rw [keyOf_sha key h]
theorem keyOf_nots (key : List UInt8) (k : Nat) (h : key.length + k ≤ 64) : keyOf (key ++ List.replicate k 0) = keyOf key := by
  unfold keyOf
  rw [if_pos (by simp; omega), if_pos (by omega)]
  simp only [nots, List.append_assoc, List.length_append, List.length_replicate]
  rw [List.replicate_append_replicate]
  congr 2
  omega
theorem mac_nots (key p : List UInt8) (k : Nat) (h : key.length + k ≤ 64) : macOf (key ++ List.replicate k 0) p = macOf key p := by
  unfold macOf
  rw [keyOf_nots key k h]
theorem i64_and63 (a : Int) : bits .and .i64 a 63 = a % 64 := by
  show IntKind.i64.wrap ((BitVec.ofInt 64 a &&& BitVec.ofInt 64 63).toNat : Int) = _
  have h1 : (BitVec.ofInt 64 63).toNat = 2 ^ 6 - 1 := by decide
  rw [BitVec.toNat_and, h1, Nat.and_two_pow_sub_one_eq_mod, BitVec.toNat_ofInt, IntKind.wrap_i64]
  omega
set_option maxRecDepth 100000 in
set_option maxHeartbeats 800000 in
theorem digestKeys_calls (A B : Option Addr) (n c m d : Nat) (key p : List UInt8) (z : Int) (w : World) (hr : Rd w A (bs key)) (hn : key.length = n) (hc : n ≤ c) (hmax : n ≤ 140737488355328) (hr2 : Rd w B (bs p)) (hm : p.length = m) (hmax2 : m ≤ 140737488355328) :
    Calls Try.prog 6 #[.slice A n c, .slice B m d, .int .i64 z] w fun e w' => e = .returned (.bool true) ∧ Chg nowhere w w' := by
  have HR := Lib.hid hr
  have HN := Lib.hid hn
  have HR2 := Lib.hid hr2
  have HM := Lib.hid hm
  clear hr hn hr2 hm
  by_cases hbig : 1500 < n + m
  · have e1 : (1500 : Int) < (n : Int) + m := by omega
    go_enter Try.func6, Try.ntmps6
    go_wp2_with fail
    go_ret
    exact ⟨rfl, Chg.refl _ _⟩
  · have e1 : ¬ (1500 : Int) < (n : Int) + m := by omega
    have hn15 : n ≤ 1500 := by omega
    have hm15 : m ≤ 1500 := by omega
    clear hmax hmax2 hbig
    have HI25 := Lib.hid (show (Try.prog.info? 25).map (·.size) = some 32 by kernel_rfl)
    have HSLS : Hid ((u8s (sha key)).size = 32) := Lib.hid (by rw [u8s_size, sha_len])
    have hq : ∀ w, (binOp .eql 25 (.agg (u8s (macOf key p))) (.agg (u8s (macOf key p)))).run Try.prog w = .ok (.bool true) w := hash_same _ (macOf_len _ _)
    go_enter Try.func6, Try.ntmps6
    go_wp2_with fail
    refine (dSum_calls A n c key _ HR.out HN.out hc (by omega)).mono ?_
    rintro e w1 ⟨rfl, h1⟩
    have HC1 := Lib.hid h1.out
    clear h1
    by_cases h64 : 64 < n
    · have e2 : (64 : Int) < n := by omega
      go_wp2_with (refine wpList_store_row rfl 25 _ _ rfl w1.heap.size (u8s (sha key)) rfl rfl 25 _ (heap_alloc_new w1 _) (by rw [HSLS.out]; exact HI25.out) (by rw [HSLS.out]; rfl) (u8s_one _) ?_)
      rw [World.setRow_alloc_new]
      obtain ⟨w2, hw2⟩ : ∃ w2, w2 = w1.alloc (.cells (u8s (sha key)) 25) := ⟨_, rfl⟩
      obtain ⟨zi, hzi⟩ : ∃ z, z = w1.heap.size := ⟨_, rfl⟩
      rw [← hw2, ← hzi]
      have HC2 : Hid (Chg nowhere w (World.drew w2)) := Lib.hid (by rw [hw2]; exact (HC1.out.alloc _).drew)
      have HB2 : Hid (Blk (World.drew w2) zi 25 (u8s (sha key))) := Lib.hid (by rw [hw2, hzi]; exact Blk.new w1 _ _)
      clear hw2 hzi
      refine wp_region_any (by kernel_rfl) ?_
      change wpAny _ _ _ _ _ _ _ (World.drew _)
      generalize World.drew w2 = w3 at *
      refine wpAny_take (i := 0) (v := ?_) rfl (by kernel_rfl) (by kernel_rfl) (by kernel_rfl) (fun _ _ _ h => h) (Or.inl ⟨by rfl, ?_⟩) ?_
      rotate_left
      · intro w
        go_simp
        try with_reducible rfl
      refine wpAny_take (i := 1) (v := ?_) rfl (by kernel_rfl) (by kernel_rfl) (by kernel_rfl) (fun _ _ _ h => h) (Or.inl ⟨by rfl, ?_⟩) ?_
      rotate_left
      · intro w
        go_simp
        try with_reducible rfl
      refine wpAny_take (i := 3) (v := ?_) rfl (by kernel_rfl) (by kernel_rfl) (by kernel_rfl) (fun _ _ _ h => h) (Or.inl ⟨by rfl, ?_⟩) ?_
      rotate_left
      · intro w
        go_simp
        try with_reducible rfl
      refine wpAny_take (i := 4) (v := ?_) rfl (by kernel_rfl) (by kernel_rfl) (by kernel_rfl) (fun _ _ _ h => h) (Or.inl ⟨by rfl, ?_⟩) ?_
      rotate_left
      · intro w
        go_simp
        try with_reducible rfl
      refine wpAny_ready (rs := [2]) (by kernel_rfl) (by simp) ?_
      refine AllReady.cons rfl (fun K hK => ?_) AllReady.nil
      go_simp
      refine (mac_calls A B n c m d key p _ (HR.out.later HC2.out) HN.out hc (by omega) (HR2.out.later HC2.out) HM.out (by omega)).mono ?_
      rintro e w4 ⟨rfl, h4⟩
      have HC4 := Lib.hid (HC2.out.step h4.out (fun _ h => h.elim))
      have HB4 := Lib.hid (HB2.out.chg h4.out (fun h => h))
      clear h4
      refine hK _ _ ?_
      clear hK K
      refine wpAny_ready (rs := [5]) (by kernel_rfl) (by simp) ?_
      refine AllReady.cons rfl (fun K hK => ?_) AllReady.nil
      go_simp
      refine (mac_calls (some ⟨zi, 0, none⟩) B 32 32 m d (sha key) p _ (rd_u8s HB4.out) (sha_len _) (by decide) (by decide) (HR2.out.later HC4.out) HM.out (by omega)).mono ?_
      rintro e w5 ⟨rfl, h5⟩
      rw [mac_sha key p (by rw [HN.out]; exact h64)]
      have HC5 := Lib.hid (HC4.out.step h5.out (fun _ h => h.elim))
      clear h5
      refine hK _ _ ?_
      clear hK K
      refine wpAny_take (i := 6) (v := ?_) rfl (by kernel_rfl) (by kernel_rfl) (by kernel_rfl) (fun _ _ _ h => h) (Or.inl ⟨by rfl, ?_⟩) ?_
      rotate_left
      · intro w
        go_simp
        try with_reducible rfl
      refine wpAny_take (i := 7) (v := ?_) rfl (by kernel_rfl) (by kernel_rfl) (by kernel_rfl) (fun _ _ _ h => h) (Or.inl ⟨by rfl, ?_⟩) ?_
      rotate_left
      · intro w
        go_simp
        try with_reducible rfl
      refine wpAny_ready (rs := [8]) (by kernel_rfl) (by simp) ?_
      refine AllReady.cons rfl (fun K hK => ?_) AllReady.nil
      go_simp
      refine (known_calls _).mono ?_
      rintro e w6 ⟨rfl, h6⟩
      have HC6 := Lib.hid (HC5.out.step h6.out (fun _ h => h.elim))
      clear h6
      refine hK _ _ ?_
      clear hK K
      refine wpAny_take (i := 9) (v := ?_) rfl (by kernel_rfl) (by kernel_rfl) (by kernel_rfl) (fun _ _ _ h => h) (Or.inl ⟨by rfl, ?_⟩) ?_
      rotate_left
      · intro w
        go_simp
        try with_reducible rfl
      refine wpAny_take (i := 10) (v := ?_) rfl (by kernel_rfl) (by kernel_rfl) (by kernel_rfl) (fun _ _ _ h => h) (Or.inl ⟨by rfl, ?_⟩) ?_
      rotate_left
      · intro w
        go_simp
        try with_reducible rfl
      refine wpAny_done (by kernel_rfl) ?_ _
      go_wp2_with fail
      go_ret
      exact ⟨rfl, HC6.out⟩
    · have e2 : ¬ (64 : Int) < n := by omega
      have q1 := i64_and63 z
      obtain ⟨y, hy⟩ : ∃ y : Nat, z % 64 = y := ⟨(z % 64).toNat, by omega⟩
      rw [hy] at q1
      obtain ⟨k, hk⟩ : ∃ k, k = y % (65 - n) := ⟨_, rfl⟩
      have q2 : ((y : Int) % ((65 : Int) - n)) = (k : Int) := by rw [hk, Int.natCast_emod]; congr 1; omega
      have hkn : n + k ≤ 64 := by have := Nat.mod_lt y (show 0 < 65 - n by omega); omega
      clear hy hk
      go_wp2_with (refine wpList_store_row rfl 25 _ _ rfl w1.heap.size (u8s (sha key)) rfl rfl 25 _ (heap_alloc_new w1 _) (by rw [HSLS.out]; exact HI25.out) (by rw [HSLS.out]; rfl) (u8s_one _) ?_)
      rw [q2, World.setRow_alloc_new]
      obtain ⟨w2, hw2⟩ : ∃ w2, w2 = w1.alloc (.cells (u8s (sha key)) 25) := ⟨_, rfl⟩
      obtain ⟨zi, hzi⟩ : ∃ z, z = w1.heap.size := ⟨_, rfl⟩
      rw [← hw2, ← hzi]
      have HC2 : Hid (Chg nowhere w w2) := Lib.hid (by rw [hw2]; exact HC1.out.alloc _)
      clear hw2 hzi q1 q2
      have HMB : Hid ((bs key).length = n) := Lib.hid (by rw [bs_length, HN.out])
      have HB0 : Hid (0 + n ≤ lim) := hid_lim (by omega)
      have HB1 : Hid (n + k ≤ 100000000000) := Lib.hid (by omega)
      refine (mac_calls A B n c m d key p _ (HR.out.later HC2.out) HN.out hc (by omega) (HR2.out.later HC2.out) HM.out (by omega)).mono ?_
      rintro e w4 ⟨rfl, h4⟩
      have HC4 := Lib.hid (HC2.out.step h4.out (fun _ h => h.elim))
      have HR4 := Lib.hid (HR.out.later HC4.out)
      clear h4
      go_wp2_with (at_builtin; refine wpList_append_many rfl (.tmp 38) (.tmp 39) elemB rfl (Nat.le_refl _) rfl (elem_nil _) rfl (HR4.out.alloc _) HMB (bs_one key) HB0 ?_)
      intro A5 c5 w5 hown5 hchg5 hA5
      have HO5 : Hid (Own w5 5 1 A5 n c5 (bs key)) := Lib.hid hown5
      have HC5 : Hid (Chg nowhere w w5) := Lib.hid ((HC4.out.alloc (.cells #[] 5)).step hchg5 (fun x hx => by
        have h1 := HC4.out.size
        have h2 : w4.heap.size = x := hx
        omega))
      have HZ5 : Hid (∀ ad, A5 = some ad → w4.heap.size ≤ ad.block) := Lib.hid (fun ad e => by
        rcases hA5 with h | h
        · rw [e] at h
          injection h with h
          rw [h]
          exact Nat.le_refl _
        · rw [e] at h
          injection h with h
          rw [h]
          exact Nat.le_succ _)
      clear hown5 hchg5 hA5
      go_wp2_with (at_builtin; refine wpList_append_noughts rfl (.tmp 40) (.tmp 41) elemB Try.underlying3 rfl rfl HO5.out rfl HB1 ?_)
      intro A6 c6 w6 hown6 hchg6 hA6
      have HC6 : Hid (Chg nowhere w w6) := Lib.hid (HC5.out.step hchg6 (fun x hx => by
        obtain ⟨ad, e, h'⟩ := hx
        have h1 := HC4.out.size
        have h2 := HZ5.out ad e
        omega))
      have HO6 := Lib.hid hown6
      clear hown6 hchg6 hA6
      go_wp2_with fail
      refine (mac_calls A6 B (n + k) c6 m d (key ++ List.replicate k 0) p _ HO6.out.rd ?_ ?_ (by omega) (HR2.out.later HC6.out) HM.out (by omega)).mono ?_
      · rw [List.length_append, HN.out, List.length_replicate]
      · rcases HO6.out.form with ⟨_, h1, h2, _⟩ | ⟨_, _, _, _, h3, _⟩ <;> omega
      rintro e w7 ⟨rfl, h7⟩
      rw [mac_nots key p k (by rw [HN.out]; exact hkn)]
      have HC7 := Lib.hid (HC6.out.step h7.out (fun _ h => h.elim))
      clear h7
      go_wp2_with fail
      refine (known_calls _).mono ?_
      rintro e w8 ⟨rfl, h8⟩
      have HC8 := Lib.hid (HC7.out.step h8.out (fun _ h => h.elim))
      go_wp2_with fail
      go_ret
      exact ⟨rfl, HC8.out⟩
end Go.Proofs.Ytlaohifjdpjocaa
