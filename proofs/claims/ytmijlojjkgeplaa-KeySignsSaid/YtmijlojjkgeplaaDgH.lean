/- A state told as bytes: (*state).hash. -/
import Derived.Test.YtmijlojjkgeplaaDgR
import Derived.Test.YtmijlojjkgeplaaBase
open Go Go.RowKit
namespace Go.Proofs.Ytmijlojjkgeplaa
def outByte (v : V8) (i : Nat) : UInt8 := UInt8.ofNat (v.l.getD (i / 4) 0 / 2 ^ (24 - 8 * (i % 4)))
def outPart (v : V8) (k : Nat) : List UInt8 := (List.range 32).map fun i => if i < k then outByte v i else 0
theorem outPart_end (v : V8) : outPart v 32 = outSha v := by
  unfold outPart outSha outByte
  apply List.map_congr_left
  intro i hi
  rw [if_pos (List.mem_range.1 hi)]
theorem outPart_set (v : V8) (k : Nat) : (u8s (outPart v k)).setIfInBounds k (u8v (outByte v k)) = u8s (outPart v (k + 1)) := by
  rw [show u8v (outByte v k) = .int .u8 ((outByte v k).toNat : Int) from rfl, u8s_set]
  congr 1
  apply List.ext_getElem
  · simp [outPart]
  · intro i h1 h2
    have hi : i < 32 := by simpa [outPart] using h2
    rw [List.getElem_set]
    simp only [outPart, List.getElem_map, List.getElem_range]
    by_cases h : k = i
    · subst h
      rw [if_pos rfl, if_pos (by omega)]
    · rw [if_neg h]
      by_cases h3 : i < k
      · rw [if_pos h3, if_pos (by omega)]
      · rw [if_neg h3, if_neg (by omega)]
set_option maxRecDepth 100000 in
set_option maxHeartbeats 400000 in
theorem hash_calls (g : Nat) (v : V8) (w : World) (hv : v.ok) (hb : Blk w g 171 (u32s v.l)) :
    Calls Try.prog 134 #[.pointer (some ⟨g, 0, none⟩)] w fun e w' => e = .returned (.agg (u8s (outSha v))) ∧ Hid (Chg nowhere w w') := by
  have HB := Lib.hid hb
  have HV := Lib.hid hv
  clear hb hv
  go_enter Try.func134, Try.ntmps134
  go_wp2_with fail
  go_loopw [4, 5] (fun _ t wr => ∃ k : Nat, k ≤ 32 ∧ t = .int .i64 k ∧ Blk wr (w.heap.size + 1) 23 (u8s (outPart v k)) ∧ Blk wr w.heap.size 23 (u8s (outPart v 0)) ∧ Chg nowhere w wr) (fun _ t _ => 32 - (intOf t).toNat)
  case atStart =>
    have h0 : u8s (outPart v 0) = u8s (List.replicate 32 0) := by
      rfl
    rw [h0]
    refine ⟨0, Nat.zero_le _, rfl, ?_, ?_, ((Chg.refl _ _).alloc _).alloc _⟩
    · exact Blk.new1 w _ _ _
    · exact (Blk.new w _ _).alloc _
  case round =>
    obtain ⟨k, hk, rfl, h1, h2, h3⟩ := hrel
    have H1 := Lib.hid h1
    have H2 := Lib.hid h2
    have H3 := Lib.hid h3
    clear h1 h2 h3
    by_cases hlt : k < 32
    · have e1 : (k : Int) < 32 := by omega
      have hj : k / 4 < 8 := by omega
      have hcell : wr.cell? ⟨g, k / 4, none⟩ = some (.int .u32 (v.l.getD (k / 4) 0 : Nat)) := by
        rw [(HB.out.chg H3.out (fun h => h)).cell]
        exact u32s_get v.l (k / 4) hj
      have hx : v.l.getD (k / 4) 0 < 4294967296 := getD_lt (by
        obtain ⟨a1, a2, a3, a4, a5, a6, a7, a8⟩ := HV.out
        intro x hx
        simp only [V8.l, List.mem_cons, List.not_mem_nil, or_false] at hx
        rcases hx with rfl | rfl | rfl | rfl | rfl | rfl | rfl | rfl <;> assumption) _
      obtain ⟨x, hxe⟩ : ∃ x, x = v.l.getD (k / 4) 0 := ⟨_, rfl⟩
      rw [← hxe] at hcell hx
      have HX := Lib.hid hxe
      clear hxe
      have hcz : wr.cell? ⟨w.heap.size + 1, k, none⟩ = some (u8v ((outPart v k).getD k 0)) := by
        rw [H1.out.cell]
        have : k < (outPart v k).length := by simp [outPart]; omega
        exact u8s_get _ _ this
      have hfz : wr.frozen? ⟨w.heap.size + 1, k, none⟩ = false := H1.out.frozen k
      have hval : Hid (Value.int .u8 ((x : Int) / 2 ^ (24 - k % 4 * 8) % 256) = u8v (outByte v k)) := Lib.hid (by
        unfold outByte u8v
        rw [← HX.out, show 8 * (k % 4) = k % 4 * 8 by omega]
        simp)
      have HP := Lib.hid (H1.out.set_ k (u8v (outByte v k)))
      have HQ := Lib.hid (H2.out.far (p := ⟨w.heap.size + 1, k, none⟩) (by show w.heap.size ≠ w.heap.size + 1; omega) (u8v (outByte v k)))
      have HC := Lib.hid (H3.out.setCell (p := ⟨w.heap.size + 1, k, none⟩) (fun h => by have h' : w.heap.size + 1 < w.heap.size := h; omega) (u8v (outByte v k)))
      rw [outPart_set] at HP
      go_wp2_with fail
      rw [hval.out]
      exact ⟨⟨k + 1, by omega, by go_num, HP.out, HQ.out, HC.out⟩, by simp [intOf]; omega⟩
    · have e1 : (32 : Int) ≤ k := by omega
      obtain rfl : k = 32 := by omega
      rw [outPart_end] at H1
      have hi : (Try.prog.info? 23).map (·.size) = some 32 := by kernel_rfl
      have hlen0 : (u8s (outPart v 0)).size = 32 := by simp [u8s_size, outPart]
      have hlen : (u8s (outSha v)).size = 32 := by simp [u8s_size, outSha]
      go_wp2_with (first | (refine wpList_load_row rfl 23 _ rfl (w.heap.size + 1) rfl 23 _ (0, 0) _ H1.out Try.underlying23 rfl (by rw [hlen]; exact hi) ?_) | (refine wpList_store_row rfl 23 _ _ rfl w.heap.size _ rfl rfl 23 _ H2.out (by rw [hlen]; exact hi) (by rw [hlen]; exact hlen0) (u8s_one _) ?_))
      refine bodyPost_ret (v := .agg (u8s (outSha v))) (results_cell_row rfl _ _ w.heap.size 23 _ (0, 0) _ rfl (H2.out.row_ _) Try.underlying23 rfl (by rw [hlen]; exact hi)) rfl ⟨rfl, ?_⟩
      exact H3.out.setRow (fun h => by omega) _
end Go.Proofs.Ytmijlojjkgeplaa
