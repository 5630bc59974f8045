/- A digest in hexadecimal digits: digest.Hex. -/
import Derived.Test.YtlaohifjdpjocaaDgX
import Derived.Laws.IdiomStrings
open Go Go.RowKit
namespace Go.Proofs.Ytlaohifjdpjocaa
def hexD (n : Nat) : UInt8 := ([48, 49, 50, 51, 52, 53, 54, 55, 56, 57, 97, 98, 99, 100, 101, 102] : List UInt8).getD n 0
def hexOf (xs : List UInt8) : List UInt8 := xs.flatMap fun b => [hexD (b.toNat / 16), hexD (b.toNat % 16)]
theorem hexOf_len (xs : List UInt8) : (hexOf xs).length = 2 * xs.length := by
  induction xs with
  | nil => rfl
  | cons b xs ih =>
    unfold hexOf at *
    rw [List.flatMap_cons, List.length_append, ih]
    simp
    omega
theorem index32 (xs : List UInt8) (hx : xs.length = 32) (k : Nat) (hk : k < 32) (w : World) : (Instr.index 25 (.agg (u8s xs)) (.int .i64 (k : Int))).run Try.prog w = .ok (.int .u8 ((xs.getD k 0).toNat : Int)) w := by
  simp [Instr.index, asIntOf, run_underlying Try.underlying25, Try.sizeOf5, part, isAgg, run_underlying Try.underlying5, u8s, bs, u8v, List.getD_eq_getElem?_getD, List.getElem?_eq_getElem (show k < xs.length by omega)]
  intro h
  omega
theorem hex_str (i : Nat) (h : i < (⟨#[48, 49, 50, 51, 52, 53, 54, 55, 56, 57, 97, 98, 99, 100, 101, 102]⟩ : ByteArray).size) : (⟨#[48, 49, 50, 51, 52, 53, 54, 55, 56, 57, 97, 98, 99, 100, 101, 102]⟩ : ByteArray)[i] = hexD i := by
  have h2 : i < 16 := h
  have h3 : ∀ i : Fin 16, (⟨#[48, 49, 50, 51, 52, 53, 54, 55, 56, 57, 97, 98, 99, 100, 101, 102]⟩ : ByteArray)[i.val]'i.isLt = hexD i.val := by decide
  exact h3 ⟨i, h2⟩
theorem hexOf_take (xs : List UInt8) (k : Nat) (h : k < xs.length) : hexOf (xs.take (k + 1)) = hexOf (xs.take k) ++ [hexD ((xs.getD k 0).toNat / 16), hexD ((xs.getD k 0).toNat % 16)] := by
  rw [List.take_succ_eq_append_getElem h]
  unfold hexOf
  rw [List.flatMap_append, List.getD_eq_getElem?_getD, List.getElem?_eq_getElem h]
  simp
theorem hex_set (xs : List UInt8) (k : Nat) (h : k < 32) (hx : xs.length = 32) : ((hexOf (xs.take k) ++ nots (64 - 2 * k)).set (2 * k) (hexD ((xs.getD k 0).toNat / 16))).set (2 * k + 1) (hexD ((xs.getD k 0).toNat % 16)) = hexOf (xs.take (k + 1)) ++ nots (64 - 2 * (k + 1)) := by
  have hl : (hexOf (xs.take k)).length = 2 * k := by rw [hexOf_len, List.length_take, hx]; omega
  rw [hexOf_take xs k (by omega), List.set_append_right _ _ (by omega), List.set_append_right _ _ (by omega), hl, Nat.sub_self, show 2 * k + 1 - 2 * k = 1 by omega]
  rw [show nots (64 - 2 * k) = 0 :: 0 :: nots (64 - 2 * (k + 1)) by
    unfold nots
    rw [← List.replicate_succ, ← List.replicate_succ]
    congr 1
    omega]
  simp
set_option maxRecDepth 100000 in
set_option maxHeartbeats 800000 in
theorem hex_calls (xs : List UInt8) (w : World) (hx : xs.length = 32) :
    Calls Try.prog 25 #[.agg (u8s xs)] w fun e w' => e = .returned (.string ⟨(hexOf xs).toArray⟩) ∧ Hid (Chg nowhere w w') := by
  have HX := Lib.hid hx
  clear hx
  have HXS : Hid ((u8s xs).size = 32) := Lib.hid (by rw [u8s_size, HX.out])
  have hi25 := Lib.hid (show (Try.prog.info? 25).map (·.size) = some 32 by kernel_rfl)
  go_enter Try.func25, Try.ntmps25
  go_wp2_with (refine wpList_load_row rfl 25 _ rfl w.heap.size rfl 25 _ (0, 0) _ (show Blk ((w.alloc (.cells (u8s xs) 25)).alloc (.cells (u8s (nots 64)) 72)) w.heap.size 25 (u8s xs) from (Blk.new w _ _).alloc _) Try.underlying25 rfl (by rw [HXS.out]; exact hi25.out) ?_)
  go_loopw [4, 5, 7] (fun _ _ t wr => ∃ k : Nat, k ≤ 32 ∧ t = .int .i64 k ∧ Blk wr (w.heap.size + 1) 72 (u8s (hexOf (xs.take k) ++ nots (64 - 2 * k))) ∧ Chg nowhere w wr) (fun _ _ t _ => 32 - (intOf t).toNat)
  case atStart => exact ⟨0, Nat.zero_le _, rfl, Blk.new1 w _ _ _, ((Chg.refl _ _).alloc _).alloc _⟩
  case round =>
    obtain ⟨k, hk, rfl, h1, h2⟩ := hrel
    have H1 := Lib.hid h1
    have H2 := Lib.hid h2
    clear h1 h2
    by_cases hlt : k < 32
    · have e1 : (k : Int) < 32 := by omega
      have hix := index32 xs HX.out k hlt
      obtain ⟨b, hb⟩ : ∃ b, b = xs.getD k 0 := ⟨_, rfl⟩
      rw [← hb] at hix
      have HB := Lib.hid hb
      have hb8 := b.toNat_lt
      obtain ⟨hi, hhi⟩ : ∃ x, x = b.toNat / 16 := ⟨_, rfl⟩
      obtain ⟨lo, hlo⟩ : ∃ x, x = b.toNat % 16 := ⟨_, rfl⟩
      obtain ⟨j0, hj0⟩ : ∃ j, j = 2 * k := ⟨_, rfl⟩
      obtain ⟨j1, hj1⟩ : ∃ j, j = 2 * k + 1 := ⟨_, rfl⟩
      have r0 : IntKind.i64.wrap (2 * (k : Int)) = (j0 : Int) := by rw [IntWalk.i64_in _ (by omega)]; omega
      have r1 : IntKind.i64.wrap ((j0 : Int) + 1) = (j1 : Int) := by rw [IntWalk.i64_in _ (by omega)]; omega
      have g0 : (j0 : Int) < 64 := by omega
      have g1 : (j1 : Int) < 64 := by omega
      have hi16 : (hi : Int) < 16 := by omega
      have lo16 : (lo : Int) < 16 := by omega
      have q1 : ((b.toNat : Int) / 16) = (hi : Int) := by rw [hhi]; rfl
      have q2 : bits .and .u8 (b.toNat : Int) 15 = (lo : Int) := by
        rw [show (15 : Int) = ((15 : Nat) : Int) from rfl, u8_and_nat _ _ (by omega) (by decide), hlo]
        have := Nat.and_two_pow_sub_one_eq_mod b.toNat 4
        rw [show 2 ^ 4 - 1 = 15 from rfl] at this
        rw [this]
      have hcl : ∀ j, j < 64 → ∃ v, wr.cell? ⟨w.heap.size + 1, j, none⟩ = some (.int .u8 v) := fun j hj => by
        rw [H1.out.cell]
        exact ⟨_, u8s_get _ _ (by simp [hexOf_len, HX.out, nots_len]; omega)⟩
      obtain ⟨v0, c0⟩ := hcl j0 (by omega)
      obtain ⟨v1, c1⟩ := hcl j1 (by omega)
      have f0 : wr.frozen? ⟨w.heap.size + 1, j0, none⟩ = false := H1.out.frozen _
      have f1 : wr.frozen? ⟨w.heap.size + 1, j1, none⟩ = false := H1.out.frozen _
      have hne1 : ¬ j0 = j1 := by omega
      have hne2 : ¬ j1 = j0 := by omega
      have hst : ∀ (i : Nat) (h : i < (⟨#[48, 49, 50, 51, 52, 53, 54, 55, 56, 57, 97, 98, 99, 100, 101, 102]⟩ : ByteArray).size), (⟨#[48, 49, 50, 51, 52, 53, 54, 55, 56, 57, 97, 98, 99, 100, 101, 102]⟩ : ByteArray)[i] = hexD i := hex_str
      have hn := (H1.out.set_ j0 (.int .u8 ((hexD hi).toNat : Int))).set_ j1 (.int .u8 ((hexD lo).toNat : Int))
      rw [u8s_set, u8s_set, hj0, hj1, hhi, hlo, hb, hex_set xs k hlt HX.out, ← hb, ← hhi, ← hlo, ← hj1, ← hj0] at hn
      have HNN := Lib.hid hn
      have HCC := Lib.hid ((H2.out.setCell (p := ⟨w.heap.size + 1, j0, none⟩) (fun h => by have h' : w.heap.size + 1 < w.heap.size := h; omega) (.int .u8 ((hexD hi).toNat : Int))).setCell (p := ⟨w.heap.size + 1, j1, none⟩) (fun h => by have h' : w.heap.size + 1 < w.heap.size := h; omega) (.int .u8 ((hexD lo).toNat : Int)))
      clear hb hhi hlo hj0 hj1 hcl hn
      go_wp2_with fail
      go_region_with fail
      all_goals
        go_wp2_with fail
      all_goals
        exact ⟨⟨k + 1, by omega, by go_num, HNN.out, HCC.out.drew⟩, by simp [intOf]; omega⟩
    · have e1 : (32 : Int) ≤ k := by omega
      obtain rfl : k = 32 := by omega
      have hfull : hexOf (xs.take 32) ++ nots (64 - 2 * 32) = hexOf xs := by
        rw [List.take_of_length_le (by rw [HX.out]; exact Nat.le_refl _)]
        simp [nots]
      rw [hfull] at H1
      clear hfull
      have hlen : (hexOf xs).length = 64 := by rw [hexOf_len, HX.out]
      have hcv : (convert 22 9 (.slice (some ⟨w.heap.size + 1, 0, none⟩) 64 64)).run Try.prog wr = .ok (.string ⟨(hexOf xs).toArray⟩) wr := by
        have h := run_convert_bytes_back (P := Try.prog) wr 22 9 5 ⟨w.heap.size + 1, 0, none⟩ 64 (hexOf xs) Try.underlying22 Try.underlying5 Try.underlying9 (fun j hj => by
          rw [add_row, H1.out.cell, u8s_get _ _ hj]
          simp [List.getD_eq_getElem?_getD, List.getElem?_eq_getElem hj])
        rwa [hlen] at h
      clear hlen
      go_wp2_with fail
      go_ret
      exact ⟨rfl, H2⟩
end Go.Proofs.Ytlaohifjdpjocaa
