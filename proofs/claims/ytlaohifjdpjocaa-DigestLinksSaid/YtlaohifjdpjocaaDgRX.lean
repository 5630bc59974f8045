/- A digest in hexadecimal digits: the reference's Hex. -/
import Derived.Test.YtlaohifjdpjocaaDgHex
open Go Go.RowKit
namespace Go.Proofs.Ytlaohifjdpjocaa
def digs : ByteArray := ⟨#[48, 49, 50, 51, 52, 53, 54, 55, 56, 57, 97, 98, 99, 100, 101, 102]⟩
theorem str_snoc (a : List UInt8) (x : UInt8) : (⟨a.toArray⟩ : ByteArray) ++ (⟨#[x]⟩ : ByteArray) = ⟨(a ++ [x]).toArray⟩ := by
  apply ByteArray.ext
  simp
theorem digs_cut (n : Nat) (h : n < 16) : digs.extract n (n + 1) = ⟨#[hexD n]⟩ := by
  have h3 : ∀ i : Fin 16, digs.extract i.val (i.val + 1) = ⟨#[hexD i.val]⟩ := by decide
  exact h3 ⟨n, h⟩
theorem digs_slice (n : Nat) (h : n < 16) (w : World) : (Instr.slice 9 (.string digs) (some (.int .u8 (n : Int))) (some (.int .u8 ((n : Int) + 1))) none).run Try.prog w = .ok (.string ⟨#[hexD n]⟩) w := by
  have h16 : digs.size = 16 := by decide
  have h1 := digs_cut n h
  have h2 : (n : Int) < 16 := by omega
  have h3 : ¬ ((n : Int) < 0) := by omega
  simp [Instr.slice, Instr.sliceBounds, Instr.sliceBound, asIntOf, run_underlying Try.underlying9, h16]
  rw [if_pos ⟨by omega, by omega⟩, h1]
theorem str_add (a : List UInt8) (x : UInt8) (h : a.length ≤ 64) (w : World) : (binOp .add 9 (.string ⟨a.toArray⟩) (.string ⟨#[x]⟩)).run Try.prog w = .ok (.string ⟨(a ++ [x]).toArray⟩) w := by
  have h1 := str_snoc a x
  have hs1 : (⟨a.toArray⟩ : ByteArray).size = a.length := rfl
  have hs2 : (⟨#[x]⟩ : ByteArray).size = 1 := rfl
  simp [binOp, Op.stringOp, run_underlying Try.underlying9]
  rw [if_neg (by rw [hs1, hs2]; omega), h1]
set_option maxRecDepth 100000 in
set_option maxHeartbeats 800000 in
theorem refHex_calls (xs : List UInt8) (w : World) (hx : xs.length = 32) :
    Calls Try.prog 26 #[.agg (u8s xs)] w fun e w' => e = .returned (.string ⟨(hexOf xs).toArray⟩) ∧ Hid (Chg nowhere w w') := by
  have HX := Lib.hid hx
  clear hx
  go_enter Try.func26, Try.ntmps26
  go_wp2_with fail
  go_loopw [3, 4] (fun s t wr => ∃ k : Nat, k ≤ 32 ∧ t = .int .i64 k ∧ s = .string ⟨(hexOf (xs.take k)).toArray⟩ ∧ Blk wr w.heap.size 25 (u8s xs) ∧ Chg nowhere w wr) (fun _ t _ => 32 - (intOf t).toNat)
  case atStart => exact ⟨0, Nat.zero_le _, rfl, rfl, Blk.new w _ _, (Chg.refl _ _).alloc _⟩
  case round =>
    obtain ⟨k, hk, rfl, rfl, h1, h2⟩ := hrel
    have H1 := Lib.hid h1
    have H2 := Lib.hid h2
    clear h1 h2
    by_cases hlt : k < 32
    · have e1 : (k : Int) < 32 := by omega
      obtain ⟨b, hb⟩ : ∃ b, b = xs.getD k 0 := ⟨_, rfl⟩
      have hc : wr.cell? ⟨w.heap.size, k, none⟩ = some (.int .u8 (b.toNat : Int)) := by
        rw [hb, H1.out.cell, u8s_get _ _ (by rw [HX.out]; omega)]
      have HB := Lib.hid hb
      clear hb
      have hbl := b.toNat_lt
      obtain ⟨hi, hhi⟩ : ∃ n, n = b.toNat / 16 := ⟨_, rfl⟩
      obtain ⟨lo, hlo⟩ : ∃ n, n = b.toNat % 16 := ⟨_, rfl⟩
      have q1 : IntKind.u8.wrap ((b.toNat : Int) / 16) = (hi : Int) := by simp only [IntKind.wrap, IntKind.bits, IntKind.signed]; simp; omega
      have q2 : IntKind.u8.wrap ((hi : Int) + 1) = (hi : Int) + 1 := by simp only [IntKind.wrap, IntKind.bits, IntKind.signed]; simp; omega
      have q3 : IntKind.u8.wrap ((b.toNat : Int) % 16) = (lo : Int) := by simp only [IntKind.wrap, IntKind.bits, IntKind.signed]; simp; omega
      have q3' : IntKind.u8.wrap ((b.toNat : Int).tmod 16) = (lo : Int) := by rw [Int.tmod_eq_emod_of_nonneg (by omega)]; exact q3
      have q4 : IntKind.u8.wrap ((lo : Int) + 1) = (lo : Int) + 1 := by simp only [IntKind.wrap, IntKind.bits, IntKind.signed]; simp; omega
      have s1 := digs_slice hi (by omega)
      have s2 := digs_slice lo (by omega)
      unfold digs at s1 s2
      have a1 := str_add (hexOf (xs.take k)) (hexD hi) (by rw [hexOf_len, List.length_take]; omega)
      have a2 := str_add (hexOf (xs.take k) ++ [hexD hi]) (hexD lo) (by rw [List.length_append, hexOf_len, List.length_take]; simp; omega)
      have z1 : (⟨(hexOf (xs.take k)).toArray⟩ : ByteArray).size = 2 * k := by show (hexOf (xs.take k)).toArray.size = _; rw [List.size_toArray, hexOf_len, List.length_take, HX.out]; omega
      have z2 : (⟨(hexOf (xs.take k) ++ [hexD hi]).toArray⟩ : ByteArray).size = 2 * k + 1 := by show (hexOf (xs.take k) ++ [hexD hi]).toArray.size = _; rw [List.size_toArray, List.length_append, hexOf_len, List.length_take, HX.out]; simp; omega
      have z3 : (⟨#[hexD hi]⟩ : ByteArray).size = 1 := rfl
      have z4 : (⟨#[hexD lo]⟩ : ByteArray).size = 1 := rfl
      have t1 := str_snoc (hexOf (xs.take k)) (hexD hi)
      have t2 := str_snoc (hexOf (xs.take k) ++ [hexD hi]) (hexD lo)
      have t3 := hexOf_take xs k (by rw [HX.out]; exact hlt)
      rw [← HB.out, ← hhi, ← hlo] at t3
      have T3 := Lib.hid t3
      clear t3
      generalize hX : hexOf (xs.take k) = X at *
      have HXX := Lib.hid hX
      clear hX
      have HHI := Lib.hid hhi
      have HLO := Lib.hid hlo
      clear hhi hlo hbl
      go_wp2_with fail
      go_quiet (fail)
      go_wp2_with fail
      refine ⟨⟨k + 1, by omega, by go_num, ?_, H1.out, H2.out.drewN _⟩, by simp [intOf]; omega⟩
      rw [T3.out]
      have d1 := digs_cut (b.toNat % 16) (by omega)
      unfold digs at d1
      simp
      rw [d1, ← HLO.out, t2, List.append_assoc]
      rfl
    · have e1 : (32 : Int) ≤ k := by omega
      obtain rfl : k = 32 := by omega
      go_wp2_with fail
      go_ret
      refine ⟨?_, H2⟩
      rw [List.take_of_length_le (Nat.le_of_eq HX.out)]
      rfl
end Go.Proofs.Ytlaohifjdpjocaa
