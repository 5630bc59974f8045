/- A digest that goes on: the program's Link and the reference's. -/
import Derived.Test.YtlaohifjdpjocaaDgX
import Derived.Test.YtlaohifjdpjocaaDgRS
open Go Go.RowKit
namespace Go.Proofs.Ytlaohifjdpjocaa
set_option maxRecDepth 100000 in
set_option maxHeartbeats 800000 in
theorem link_calls (hs : List UInt8) (B : Option Addr) (m d : Nat) (p : List UInt8) (w : World) (hh : hs.length = 32) (hr2 : Rd w B (bs p)) (hm : p.length = m) (hm9 : m ≤ 10000000) :
    Calls Try.prog 23 #[.agg (u8s hs), .slice B m d] w fun e w' => e = .returned (.agg (u8s (sha (hs ++ p)))) ∧ Hid (Chg nowhere w w') := by
  have HH := Lib.hid hh
  have HR2 := Lib.hid hr2
  have HM := Lib.hid hm
  have HI25 := Lib.hid (show (Try.prog.info? 25).map (·.size) = some 32 by kernel_rfl)
  have HML : Hid ((u8s (sha (hs ++ p))).size = 32) := Lib.hid (by rw [u8s_size, sha_len])
  clear hh hr2 hm
  go_enter Try.func23, Try.ntmps23
  go_wp2_with fail
  obtain ⟨zh, hzh⟩ : ∃ z, z = w.heap.size := ⟨_, rfl⟩
  obtain ⟨z0, hz0⟩ : ∃ z, z = w.heap.size + 1 := ⟨_, rfl⟩
  obtain ⟨w2, hw2⟩ : ∃ w2, w2 = (w.alloc (.cells (u8s hs) 25)).alloc (.cells (u8s (nots 32)) 25) := ⟨_, rfl⟩
  have BH : Hid (Blk w2 zh 25 (u8s hs)) := Lib.hid (by rw [hw2, hzh]; exact (Blk.new w _ _).alloc _)
  have B0 : Hid (Blk w2 z0 25 (u8s (nots 32))) := Lib.hid (by rw [hw2, hz0]; exact Blk.new1 w _ _ _)
  have C2 : Hid (Chg nowhere w w2) := Lib.hid (by rw [hw2]; exact ((Chg.refl _ _).alloc _).alloc _)
  have hsz : w.heap.size + 1 + 1 = w2.heap.size := by rw [hw2]; simp
  change Calls _ _ _ (((w.alloc (.cells (u8s hs) 25)).alloc (.cells (u8s (nots 32)) 25)).alloc _) _
  rw [← hw2, hsz, ← hz0, ← hzh]
  have hzw : w.heap.size ≤ z0 := by omega
  clear hw2 hsz hz0 hzh
  refine (bJoin_calls _ 2 2 [⟨some ⟨zh, 0, none⟩, 32, hs⟩, ⟨B, d, p⟩] _ ?_ rfl (Nat.le_refl _) ?_ ?_ (by decide)).mono ?_
  · show Rd _ _ [.slice (some ⟨zh, 0, none⟩) hs.length 32, .slice B p.length d]
    rw [HH.out, HM.out]
    exact Rd.lit _ [_, _] _
  · intro r hr
    simp only [List.mem_cons, List.not_mem_nil, or_false] at hr
    rcases hr with rfl | rfl
    · exact (rd_u8s BH.out).alloc _
    · exact (HR2.out.later C2.out).alloc _
  · have h1 := HH.out
    have h2 := HM.out
    simp [Lib.lens]
    omega
  rintro e w6 ⟨A6, n6, c6, rfl, h6, hc6, hg6⟩
  rw [show ([⟨some ⟨zh, 0, none⟩, 32, hs⟩, ⟨B, d, p⟩] : List Row).map (·.p) = [hs, p] from rfl, show [hs, p].flatten = hs ++ p by simp] at h6
  have C6 := Lib.hid ((C2.out.alloc (.cells #[.slice (some ⟨zh, 0, none⟩) 32 32, .slice B m d] 22)).step hc6.out (fun _ h => h.elim))
  have B6 : Hid (Blk w6 z0 25 (u8s (nots 32))) := Lib.hid ((B0.out.alloc (.cells #[.slice (some ⟨zh, 0, none⟩) 32 32, .slice B m d] 22)).chg hc6.out (fun h => h))
  clear hc6 hg6
  go_wp2_with fail
  refine (dSum_calls A6 n6 c6 (hs ++ p) _ h6.out.rd h6.out.len h6.out.le (by have h1 := h6.out.len; have h2 := HH.out; have h3 := HM.out; simp at h1; omega)).mono ?_
  rintro e w7 ⟨rfl, hc7⟩
  have C7 := Lib.hid (C6.out.step hc7.out (fun _ h => h.elim))
  have B7 := Lib.hid (B6.out.chg hc7.out (fun h => h))
  clear hc7 h6
  go_wp2_with (refine wpList_store_row rfl 25 _ _ rfl z0 (u8s (sha (hs ++ p))) rfl rfl 25 _ B7.out (by rw [HML.out]; exact HI25.out) (by rw [HML.out]; rfl) (u8s_one _) ?_)
  refine bodyPost_ret (v := .agg (u8s (sha (hs ++ p)))) (results_cell_row rfl _ _ z0 25 _ (0, 0) _ rfl (B7.out.row_ _) Try.underlying25 rfl (by rw [HML.out]; exact HI25.out)) rfl ⟨rfl, ?_⟩
  exact C7.out.setRow (fun h => by omega) _
set_option maxRecDepth 100000 in
set_option maxHeartbeats 800000 in
theorem refLink_calls (hs : List UInt8) (B : Option Addr) (m d : Nat) (p : List UInt8) (w : World) (hh : hs.length = 32) (hr2 : Rd w B (bs p)) (hm : p.length = m) (hm9 : m ≤ 10000000) :
    Calls Try.prog 24 #[.agg (u8s hs), .slice B m d] w fun e w' => e = .returned (.agg (u8s (sha (hs ++ p)))) ∧ Hid (Chg nowhere w w') := by
  have HH := Lib.hid hh
  have HR2 := Lib.hid hr2
  have HM := Lib.hid hm
  have HI25 := Lib.hid (show (Try.prog.info? 25).map (·.size) = some 32 by kernel_rfl)
  have HML : Hid ((u8s (sha (hs ++ p))).size = 32) := Lib.hid (by rw [u8s_size, sha_len])
  have HHB : Hid ((bs hs).length = 32) := Lib.hid (by rw [bs_length, hh])
  have HMB : Hid ((bs p).length = m) := Lib.hid (by rw [bs_length, hm])
  have HB0 : Hid (0 + 32 ≤ lim) := hid_lim (by decide)
  have HB1 : Hid (32 + m ≤ lim) := hid_lim (by omega)
  clear hh hr2 hm
  go_enter Try.func24, Try.ntmps24
  have HOE : Hid (Own (((w.alloc (.cells (u8s hs) 25)).alloc (.cells (u8s (nots 32)) 25)).alloc (.cells #[] 5)) 5 1 (some ⟨w.heap.size + 1 + 1, 0, none⟩) 0 0 (bs [])) := Lib.hid (by
    have h := elem_nil ((w.alloc (.cells (u8s hs) 25)).alloc (.cells (u8s (nots 32)) 25))
    simpa using h)
  have HRE : Hid (Rd (((w.alloc (.cells (u8s hs) 25)).alloc (.cells (u8s (nots 32)) 25)).alloc (.cells #[] 5)) (some ⟨w.heap.size, 0, none⟩) (bs hs)) := Lib.hid (((rd_u8s (Blk.new w _ _)).alloc _).alloc _)
  go_wp2_with (at_builtin; refine wpList_append_many rfl (.tmp 5) (.tmp 6) elemB rfl (Nat.le_refl _) rfl HOE.out rfl HRE.out HHB (bs_one hs) HB0 ?_)
  intro A5 c5 w5 hown5 hchg5 hA5
  have HO5 : Hid (Own w5 5 1 A5 32 c5 (bs hs)) := Lib.hid hown5
  have hne1 : Chg (fun k => w.heap.size + 1 + 1 = k) (((w.alloc (.cells (u8s hs) 25)).alloc (.cells (u8s (nots 32)) 25)).alloc (.cells #[] 5)) w5 := hchg5
  have HC5 : Hid (Chg nowhere w w5) := Lib.hid (((((Chg.refl _ w).alloc _).alloc _).alloc _).step hne1 (fun x hx => by
    have h1 : w.heap.size + 1 + 1 = x := hx
    omega))
  have B5 : Hid (Blk w5 (w.heap.size + 1) 25 (u8s (nots 32))) := Lib.hid (((Blk.new1 w _ _ _).alloc _).chg hne1 (fun h => by
    have h1 : w.heap.size + 1 + 1 = w.heap.size + 1 := h
    omega))
  have HZ5 : Hid (∀ ad, A5 = some ad → w.heap.size + 2 ≤ ad.block) := Lib.hid (fun ad e => by
    rcases hA5 with h | h <;>
    · rw [e] at h
      injection h with h
      rw [h]
      simp)
  obtain ⟨z0, hz0⟩ : ∃ z, z = w.heap.size + 1 := ⟨_, rfl⟩
  rw [← hz0] at B5 ⊢
  have hzw : w.heap.size ≤ z0 := by omega
  have hzv : z0 < w.heap.size + 2 := by omega
  clear hz0
  have HR5 := Lib.hid (HR2.out.later HC5.out)
  clear hown5 hchg5 hA5 hne1
  go_wp2_with (at_builtin; refine wpList_append_many rfl (.tmp 7) (.tmp 8) elemB rfl (Nat.le_refl _) rfl HO5.out rfl HR5.out HMB (bs_one p) HB1 ?_)
  intro A6 c6 w6 hown6 hchg6 hA6
  have HO6 : Hid (Own w6 5 1 A6 (32 + m) c6 (bs (hs ++ p))) := Lib.hid (by rw [← bs_append]; exact hown6)
  have HC6 : Hid (Chg nowhere w w6) := Lib.hid (HC5.out.step hchg6 (fun x hx => by
    obtain ⟨ad, e, h1⟩ := hx
    have h2 := HZ5.out ad e
    omega))
  have B6 : Hid (Blk w6 z0 25 (u8s (nots 32))) := Lib.hid (B5.out.chg hchg6 (fun hx => by
    obtain ⟨ad, e, h1⟩ := hx
    have h2 := HZ5.out ad e
    omega))
  clear hown6 hchg6 hA6
  go_wp2_with fail
  refine (dRefSum_calls A6 (32 + m) c6 (hs ++ p) _ HO6.out.rd (by rw [List.length_append, HH.out, HM.out]) (by omega)).mono ?_
  rintro e w7 ⟨rfl, hc7⟩
  have C7 := Lib.hid (HC6.out.step hc7.out (fun _ h => h.elim))
  have B7 := Lib.hid (B6.out.chg hc7.out (fun h => h))
  clear hc7
  go_wp2_with (refine wpList_store_row rfl 25 _ _ rfl z0 (u8s (sha (hs ++ p))) rfl rfl 25 _ B7.out (by rw [HML.out]; exact HI25.out) (by rw [HML.out]; rfl) (u8s_one _) ?_)
  refine bodyPost_ret (v := .agg (u8s (sha (hs ++ p)))) (results_cell_row rfl _ _ z0 25 _ (0, 0) _ rfl (B7.out.row_ _) Try.underlying25 rfl (by rw [HML.out]; exact HI25.out)) rfl ⟨rfl, ?_⟩
  exact C7.out.setRow (fun h => by omega) _
end Go.Proofs.Ytlaohifjdpjocaa
