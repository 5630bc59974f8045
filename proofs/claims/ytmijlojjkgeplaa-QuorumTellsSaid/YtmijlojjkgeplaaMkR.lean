/- Two digests in one: the reference's Node. -/
import Derived.Test.YtmijlojjkgeplaaDig
import Derived.Test.YtmijlojjkgeplaaDgRS
open Go Go.RowKit
namespace Go.Proofs.Ytmijlojjkgeplaa
def nodeOf (a b : List UInt8) : List UInt8 := sha (3 :: (a ++ b))
theorem nodeOf_len (a b : List UInt8) : (nodeOf a b).length = 32 := sha_len _
set_option maxRecDepth 100000 in
set_option maxHeartbeats 800000 in
theorem refNode_calls (xs ys : List UInt8) (w : World) (hx : xs.length = 32) (hy : ys.length = 32) :
    Calls Try.prog 96 #[.agg (u8s xs), .agg (u8s ys)] w fun e w' => e = .returned (.agg (u8s (nodeOf xs ys))) ∧ Hid (Chg nowhere w w') := by
  have HX := Lib.hid hx
  have HY := Lib.hid hy
  have HI25 := Lib.hid (show (Try.prog.info? 23).map (·.size) = some 32 by kernel_rfl)
  have HML : Hid ((u8s (nodeOf xs ys)).size = 32) := Lib.hid (by rw [u8s_size, nodeOf_len])
  have HXB : Hid ((bs xs).length = 32) := Lib.hid (by rw [bs_length, hx])
  have HYB : Hid ((bs ys).length = 32) := Lib.hid (by rw [bs_length, hy])
  have HB0 : Hid (1 + 32 ≤ lim) := hid_lim (by decide)
  have HB1 : Hid (33 + 32 ≤ lim) := hid_lim (by decide)
  clear hx hy
  obtain ⟨W3, hW3⟩ : ∃ W3, W3 = ((w.alloc (.cells (u8s xs) 23)).alloc (.cells (u8s ys) 23)).alloc (.cells (u8s (nots 32)) 23) := ⟨_, rfl⟩
  have HSZ : Hid (W3.heap.size = w.heap.size + 1 + 1 + 1) := Lib.hid (by rw [hW3]; simp)
  have BX : Hid (Blk W3 w.heap.size 23 (u8s xs)) := Lib.hid (by rw [hW3]; exact ((Blk.new w _ _).alloc _).alloc _)
  have BY : Hid (Blk W3 (w.heap.size + 1) 23 (u8s ys)) := Lib.hid (by rw [hW3]; exact (Blk.new1 w _ _ _).alloc _)
  have B0 : Hid (Blk W3 (w.heap.size + 1 + 1) 23 (u8s (nots 32))) := Lib.hid (by
    have h := Blk.new1 (w.alloc (.cells (u8s xs) 23)) (.cells (u8s ys) 23) 23 (u8s (nots 32))
    rw [hW3]
    simpa using h)
  have C3 : Hid (Chg nowhere w W3) := Lib.hid (by rw [hW3]; exact (((Chg.refl _ _).alloc _).alloc _).alloc _)
  have HOE : Hid (Own (W3.alloc (.cells #[.int .u8 3] 5)) 5 1 (some ⟨w.heap.size + 1 + 1 + 1, 0, none⟩) 1 1 (bs [3])) := Lib.hid (by
    have h := Own.new W3 5 1 1 #[.int .u8 3] (by decide) rfl
    rw [HSZ.out] at h
    exact h)
  have HW3 := Lib.hid hW3
  clear hW3
  go_enter Try.func96, Try.ntmps96
  go_wp2_with (at_builtin; change wpList _ _ _ _ _ ((((w.alloc (.cells (u8s xs) 23)).alloc (.cells (u8s ys) 23)).alloc (.cells (u8s (nots 32)) 23)).alloc (.cells #[.int .u8 3] 5)); rw [← HW3.out]; refine wpList_append_many rfl (.tmp 6) (.tmp 7) elemB rfl (Nat.le_refl _) rfl HOE.out rfl (rd_u8s (BX.out.alloc _)) HXB (bs_one xs) HB0 ?_)
  intro A5 c5 w5 hown5 hchg5 hA5
  have HO5 : Hid (Own w5 5 1 A5 33 c5 (bs (3 :: xs))) := Lib.hid hown5
  have hsz := HSZ.out
  have HC5 : Hid (Chg nowhere w w5) := Lib.hid ((C3.out.alloc _).step hchg5 (fun x hx => by
    have h1 : w.heap.size + 1 + 1 + 1 = x := hx
    omega))
  have BY5 : Hid (Blk w5 (w.heap.size + 1) 23 (u8s ys)) := Lib.hid ((BY.out.alloc _).chg hchg5 (fun h => by
    have h1 : w.heap.size + 1 + 1 + 1 = w.heap.size + 1 := h
    omega))
  have B5 : Hid (Blk w5 (w.heap.size + 1 + 1) 23 (u8s (nots 32))) := Lib.hid ((B0.out.alloc _).chg hchg5 (fun h => by
    have h1 : w.heap.size + 1 + 1 + 1 = w.heap.size + 1 + 1 := h
    omega))
  have HZ5 : Hid (∀ ad, A5 = some ad → w.heap.size + 3 ≤ ad.block) := Lib.hid (fun ad e => by
    rcases hA5 with h | h
    · rw [e] at h
      injection h with h
      rw [h]
      exact Nat.le_refl _
    · rw [e] at h
      injection h with h
      rw [h, hsz]
      exact Nat.le_succ _)
  clear hown5 hchg5 hA5 hsz
  obtain ⟨z0, hz0⟩ : ∃ z, z = w.heap.size + 1 + 1 := ⟨_, rfl⟩
  rw [← hz0] at B5 ⊢
  obtain ⟨zy, hzy⟩ : ∃ z, z = w.heap.size + 1 := ⟨_, rfl⟩
  rw [← hzy] at BY5 ⊢
  have hzw : w.heap.size ≤ z0 := by omega
  have hzv : z0 < w.heap.size + 3 := by omega
  clear hz0 hzy HOE HW3 HSZ BX BY B0 C3
  go_wp2_with (at_builtin; refine wpList_append_many rfl (.tmp 9) (.tmp 10) elemB rfl (Nat.le_refl _) rfl HO5.out rfl (rd_u8s BY5.out) HYB (bs_one ys) HB1 ?_)
  intro A6 c6 w6 hown6 hchg6 hA6
  have HO6 : Hid (Own w6 5 1 A6 (33 + 32) c6 (bs (3 :: (xs ++ ys)))) := Lib.hid (by rw [← List.cons_append, ← bs_append]; exact hown6)
  have HC6 : Hid (Chg nowhere w w6) := Lib.hid (HC5.out.step hchg6 (fun x hx => by
    obtain ⟨ad, e, h1⟩ := hx
    have h2 := HZ5.out ad e
    omega))
  have B6 : Hid (Blk w6 z0 23 (u8s (nots 32))) := Lib.hid (B5.out.chg hchg6 (fun hx => by
    obtain ⟨ad, e, h1⟩ := hx
    have h2 := HZ5.out ad e
    omega))
  clear hown6 hchg6 hA6
  go_wp2_with fail
  refine (dRefSum_calls A6 (33 + 32) c6 (3 :: (xs ++ ys)) _ HO6.out.rd (by rw [List.length_cons, List.length_append, HX.out, HY.out]) (by decide)).mono ?_
  rintro e w7 ⟨rfl, hc7⟩
  have C7 := Lib.hid (HC6.out.step hc7.out (fun _ h => h.elim))
  have B7 := Lib.hid (B6.out.chg hc7.out (fun h => h))
  clear hc7
  go_wp2_with (refine wpList_store_row rfl 23 _ _ rfl z0 (u8s (nodeOf xs ys)) rfl rfl 23 _ B7.out (by rw [HML.out]; exact HI25.out) (by rw [HML.out]; rfl) (u8s_one _) ?_)
  refine bodyPost_ret (v := .agg (u8s (nodeOf xs ys))) (results_cell_row rfl _ _ z0 23 _ (0, 0) _ rfl (B7.out.row_ _) Try.underlying23 rfl (by rw [HML.out]; exact HI25.out)) rfl ⟨rfl, ?_⟩
  exact C7.out.setRow (fun h => by omega) _
end Go.Proofs.Ytmijlojjkgeplaa
