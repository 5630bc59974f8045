/- MkN -/
import Derived.Test.YtgjnjhhhbkidbaaGreatUaHasW
import Derived.Test.YtgjnjhhhbkidbaaGreatUaDgB
import Derived.StillTailTactics
open Go Go.RowKit
namespace Go.Proofs.YtgjnjhhhbkidbaaGreat
set_option maxRecDepth 100000 in
set_option maxHeartbeats 800000 in
theorem node_calls (xs ys : List UInt8) (w : World) (hx : xs.length = 32) (hy : ys.length = 32) :
    Calls Tryz.prog 151 #[.agg (u8s xs), .agg (u8s ys)] w fun e w' => e = .returned (.agg (u8s (nodeOf xs ys))) ∧ Hid (Chg nowhere w w') := by
  have HX := Lib.hid hx
  have HY := Lib.hid hy
  have HI25 := Lib.hid (show (Tryz.prog.info? 23).map (·.size) = some 32 by kernel_rfl)
  have HI82 := Lib.hid (show (Tryz.prog.info? 245).map (·.size) = some 65 by kernel_rfl)
  have HML : Hid ((u8s (nodeOf xs ys)).size = 32) := Lib.hid (by rw [u8s_size, nodeOf_len])
  clear hx hy
  obtain ⟨W3, hW3⟩ : ∃ W3, W3 = ((w.alloc (.cells (u8s xs) 23)).alloc (.cells (u8s ys) 23)).alloc (.cells (u8s (nots 32)) 23) := ⟨_, rfl⟩
  have HSZ : Hid (W3.heap.size = w.heap.size + 1 + 1 + 1) := Lib.hid (by rw [hW3]; simp)
  have hz65 : Tryz.zeroCells245 = u8s (nots 65) := by kernel_rfl
  have hset : (u8s (nots 65)).setIfInBounds 0 (.int .u8 3) = u8s (3 :: nots 64) := by kernel_rfl
  have HRL : Hid ((u8s (3 :: nots 64)).size = 65) := Lib.hid (by rw [u8s_size]; rfl)
  have HROW : Hid (Blk (W3.alloc (.cells (u8s (nots 65)) 245)) (w.heap.size + 1 + 1 + 1) 245 (u8s (nots 65))) := Lib.hid (by
    have h := Blk.new W3 245 (u8s (nots 65))
    rw [HSZ.out] at h
    exact h)
  have BX : Hid (Blk W3 w.heap.size 23 (u8s xs)) := Lib.hid (by rw [hW3]; exact ((Blk.new w _ _).alloc _).alloc _)
  have BY : Hid (Blk W3 (w.heap.size + 1) 23 (u8s ys)) := Lib.hid (by rw [hW3]; exact (Blk.new1 w _ _ _).alloc _)
  have B0 : Hid (Blk W3 (w.heap.size + 1 + 1) 23 (u8s (nots 32))) := Lib.hid (by
    have h := Blk.new1 (w.alloc (.cells (u8s xs) 23)) (.cells (u8s ys) 23) 23 (u8s (nots 32))
    rw [hW3]
    simpa using h)
  have C3 : Hid (Chg nowhere w W3) := Lib.hid (by rw [hW3]; exact (((Chg.refl _ _).alloc _).alloc _).alloc _)
  have HW3 := Lib.hid hW3
  clear hW3
  go_enter Tryz.func151, Tryz.ntmps151
  go_wp2_with (change wpList _ _ _ _ _ ((((w.alloc (.cells (u8s xs) 23)).alloc (.cells (u8s ys) 23)).alloc (.cells (u8s (nots 32)) 23)).alloc (.cells (u8s (nots 65)) 245)); rw [← HW3.out]; refine wpList_store_row rfl 245 _ _ rfl (w.heap.size + 1 + 1 + 1) (u8s (3 :: nots 64)) rfl rfl 245 _ HROW.out (by rw [HRL.out]; exact HI82.out) (by rw [HRL.out]; rfl) (u8s_one _) ?_)
  obtain ⟨zx, hzx⟩ : ∃ z, z = w.heap.size := ⟨_, rfl⟩
  obtain ⟨zy, hzy⟩ : ∃ z, z = w.heap.size + 1 := ⟨_, rfl⟩
  obtain ⟨z0, hz0⟩ : ∃ z, z = w.heap.size + 1 + 1 := ⟨_, rfl⟩
  obtain ⟨zr, hzr⟩ : ∃ z, z = w.heap.size + 1 + 1 + 1 := ⟨_, rfl⟩
  obtain ⟨W4, hW4⟩ : ∃ W4, W4 = (W3.alloc (.cells (u8s (nots 65)) 245)).setRow (w.heap.size + 1 + 1 + 1) (u8s (3 :: nots 64)) := ⟨_, rfl⟩
  have BR4 : Hid (Blk (World.drew W4) zr 245 (u8s (3 :: nots 64))) := Lib.hid (by rw [hW4, hzr]; exact HROW.out.row_ _)
  have BX4 : Hid (Blk (World.drew W4) zx 23 (u8s xs)) := Lib.hid (by rw [hW4, hzx]; exact (BX.out.alloc _).rowFar (by omega) _)
  have BY4 : Hid (Blk (World.drew W4) zy 23 (u8s ys)) := Lib.hid (by rw [hW4, hzy]; exact (BY.out.alloc _).rowFar (by omega) _)
  have B04 : Hid (Blk (World.drew W4) z0 23 (u8s (nots 32))) := Lib.hid (by rw [hW4, hz0]; exact (B0.out.alloc _).rowFar (by omega) _)
  have C4 : Hid (Chg nowhere w (World.drew W4)) := Lib.hid (by rw [hW4]; exact ((C3.out.alloc _).setRow (fun h => by omega) _).drew)
  rw [← hW4, ← hzr, ← hz0, ← hzy, ← hzx]
  have hne : zx ≠ zr ∧ zy ≠ zr ∧ z0 ≠ zr ∧ w.heap.size ≤ zr ∧ w.heap.size ≤ z0 := by omega
  obtain ⟨n1, n2, n3, n4, n5⟩ := hne
  clear hzx hzy hz0 hzr hW4 HROW BX BY B0 C3 hz65 hset HW3 HSZ
  have HF1 : Hid (1 + 32 ≤ (3 :: nots 64).length) := Lib.hid (by decide)
  go_still_tail 2, (by kernel_rfl)
  change wpList _ _ _ _ _ (World.drew W4)
  generalize World.drew W4 = w5 at *
  go_wp2_with (refine wpList_copyB rfl (.tmp 7) (.tmp 8) 29 29 rfl 5 Tryz.underlying29 (by kernel_rfl) rfl rfl BR4.out (rd_u8s BX4.out) HX (by decide) HF1 ?_)
  intro w6 hb6 hc6
  obtain ⟨R, hR⟩ : ∃ R, R = 3 :: (xs ++ nots 32) := ⟨_, rfl⟩
  have BR6 : Hid (Blk (World.drew w6) zr 245 (u8s R)) := by
    have h := hb6
    rw [nots_drop, ← hR] at h
    exact h
  have BX6 : Hid (Blk (World.drew w6) zx 23 (u8s xs)) := Lib.hid (show _ from (Blk.chg (S := fun k => k = zr) BX4.out hc6.out.drew (fun h => n1 h)))
  have BY6 : Hid (Blk (World.drew w6) zy 23 (u8s ys)) := Lib.hid (show _ from (Blk.chg (S := fun k => k = zr) BY4.out hc6.out.drew (fun h => n2 h)))
  have B06 : Hid (Blk (World.drew w6) z0 23 (u8s (nots 32))) := Lib.hid (show _ from (Blk.chg (S := fun k => k = zr) B04.out hc6.out.drew (fun h => n3 h)))
  have C6 : Hid (Chg nowhere w (World.drew w6)) := Lib.hid ((C4.out.step hc6.out (fun x hx => by have h1 : x = zr := hx; omega)).drew)
  have HF2 : Hid (33 + 32 ≤ R.length) := Lib.hid (by rw [hR]; simp [HX.out])
  have E1 : Hid (R.take 33 = 3 :: xs) := Lib.hid (by rw [hR, List.take_succ_cons, List.take_left' HX.out])
  have E2 : Hid (R.drop 65 = []) := Lib.hid (by rw [hR]; simp [HX.out])
  clear hR hb6 hc6 BR4 BX4 BY4 B04 C4
  go_wp2_with fail
  go_still_tail 2, (by kernel_rfl)
  change wpList _ _ _ _ _ (World.drew w6)
  generalize World.drew w6 = w7 at *
  go_wp2_with (refine wpList_copyB rfl (.tmp 10) (.tmp 11) 29 29 rfl 5 Tryz.underlying29 (by kernel_rfl) rfl rfl BR6.out (rd_u8s BY6.out) HY (by decide) HF2 ?_)
  intro w8 hb8 hc8
  have BR8 : Hid (Blk w8 zr 245 (u8s (3 :: (xs ++ ys)))) := Lib.hid (by
    have h := hb8.out
    simp only [E1.out, E2.out, List.append_nil, List.cons_append] at h
    exact h)
  have B08 : Hid (Blk w8 z0 23 (u8s (nots 32))) := Lib.hid (Blk.chg (S := fun k => k = zr) B06.out hc8.out (fun h => n3 h))
  have C8 : Hid (Chg nowhere w w8) := Lib.hid (C6.out.step hc8.out (fun x hx => by have h1 : x = zr := hx; omega))
  clear hb8 hc8 BR6 BX6 BY6 B06 C6
  go_wp2_with fail
  refine (dSum_calls (some ⟨zr, 0, none⟩) 65 65 (3 :: (xs ++ ys)) _ (rd_u8s BR8.out) (by rw [List.length_cons, List.length_append, HX.out, HY.out]) (by decide) (by decide)).mono ?_
  rintro e w9 ⟨rfl, hc9⟩
  have C9 := Lib.hid (C8.out.step hc9.out (fun _ h => h.elim))
  have B9 := Lib.hid (B08.out.chg hc9.out (fun h => h))
  clear hc9
  go_wp2_with (refine wpList_store_row rfl 23 _ _ rfl z0 (u8s (nodeOf xs ys)) rfl rfl 23 _ B9.out (by rw [HML.out]; exact HI25.out) (by rw [HML.out]; rfl) (u8s_one _) ?_)
  refine bodyPost_ret (v := .agg (u8s (nodeOf xs ys))) (results_cell_row rfl _ _ z0 23 _ (0, 0) _ rfl (B9.out.row_ _) Tryz.underlying23 rfl (by rw [HML.out]; exact HI25.out)) rfl ⟨rfl, ?_⟩
  exact C9.out.setRow (fun h => by omega) _
end Go.Proofs.YtgjnjhhhbkidbaaGreat
