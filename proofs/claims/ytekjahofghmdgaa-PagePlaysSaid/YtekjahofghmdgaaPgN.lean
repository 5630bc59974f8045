/- Flash: New, Fuse, Boot, Dead, and what the law knows by heart. -/
import Derived.Test.YtekjahofghmdgaaPgC
import Derived.Laws.MakeOwn
open Go Go.RowKit
namespace Go.Proofs.Ytekjahofghmdgaa
theorem run_make_rowN {P : Program} (t e : TypeId) (i : TypeInfo) (z : Value) (ht : P.underlying t = some (.slice e)) (hi : P.info? e = some i) (hz : i.zero = some z)
    (kl kc : IntKind) (n c : Nat) (hnc : n ≤ c) (hbytes : i.bytes * c ≤ 281474976710656) (h63 : c ≤ 9223372036854775807) (w : World) :
    (Instr.makeSlice t (.int kl (n : Int)) (.int kc (c : Int))).run P w = .ok (.slice (some ⟨w.heap.size, 0, none⟩) n c) (w.alloc (.cells (madeCells z.cells (c * i.size)) e)) := by
  have hb : (i.bytes : Int) * (c : Int) ≤ 281474976710656 := by
    have h : ((i.bytes * c : Nat) : Int) ≤ 281474976710656 := by omega
    rwa [Int.natCast_mul] at h
  have hr := run_make (P := P) w t e i z ht hi hz kl kc n c (by omega) (by omega) hb (by omega)
  simp only [Int.toNat_natCast] at hr
  exact hr
def noughts (n : Nat) : List UInt8 := List.replicate n 0
def noughtCells (n : Nat) : Array Value := (bs (noughts n)).toArray
theorem made_noughts (z : Array Value) (hz : ∀ i, i < z.size → z[i]! = .int .u8 0) (h0 : 0 < z.size) (n : Nat) : madeCells z n = noughtCells n := by
  apply Array.ext
  · simp [size_madeCells, noughtCells, noughts, bs]
  · intro i h1 h2
    simp only [madeCells, Array.getElem_map, Array.getElem_range]
    rw [hz _ (Nat.mod_lt _ h0)]
    simp [noughtCells, noughts, bs, u8v]
theorem infoPage : (Try.prog.info? 89).map (fun i => (i.zero, i.size, i.bytes)) = some (some (.agg (Array.replicate 64 (.int .u8 0))), 64, 64) := by kernel_rfl
set_option maxRecDepth 100000 in
theorem makePages (N : Nat) (hN : N ≤ 256) (w : World) : (Instr.makeSlice 85 (.int .i64 (N : Int)) (.int .i64 (N : Int))).run Try.prog w = .ok (.slice (some ⟨w.heap.size, 0, none⟩) N N) (w.alloc (.cells (noughtCells (N * 64)) 89)) := by
  obtain ⟨i, hi, hz, hs, hb⟩ := info_parts infoPage
  have h := run_make_rowN (P := Try.prog) 85 89 i _ Try.underlying85 hi hz .i64 .i64 N N (Nat.le_refl _) (by rw [hb]; omega) (by omega) w
  rw [h, hs]
  congr 3
  exact made_noughts _ (fun i hi => by
    have h64 : i < 64 := by simpa [Value.cells] using hi
    simp [Value.cells, h64]) (by simp [Value.cells]) _
def ones (n : Nat) : List UInt8 := List.replicate n 255
def FS.fresh (N : Nat) : FS := ⟨ones (64 * N), false, false, 0, 0, N⟩
theorem FS.fresh_ok {N : Nat} (h : N ≤ 256) : (FS.fresh N).ok N := ⟨by simp [FS.fresh, ones], Nat.le_refl _, h, Nat.zero_le _, fun h => by cases h⟩
def half (k N : Nat) : List UInt8 := List.replicate (k * 64) 255 ++ List.replicate ((N - k) * 64) 0
theorem half_len {k N : Nat} (h : k ≤ N) : (half k N).length = 64 * N := by simp [half]; omega
theorem half_step {k N : Nat} (h : k < N) : patch (half k N) (k * 64) (List.replicate 64 255) = half (k + 1) N := by
  unfold patch half
  rw [List.take_left' (by simp), List.length_replicate]
  have h1 : List.drop (k * 64 + 64) (List.replicate (k * 64) (255 : UInt8) ++ List.replicate ((N - k) * 64) 0) = List.replicate ((N - (k + 1)) * 64) 0 := by
    rw [List.drop_append, List.drop_eq_nil_of_le (by simp), List.nil_append, List.length_replicate, List.drop_replicate]
    congr 1
    omega
  rw [h1, List.replicate_append_replicate, show k * 64 + 64 = (k + 1) * 64 by omega]
set_option maxRecDepth 100000 in
set_option maxHeartbeats 800000 in
theorem New_calls (N : Nat) (w : World) (h1 : 1 ≤ N) (h2 : N ≤ 256) :
    Calls Try.prog 17 #[.int .i64 N] w fun e w' => ∃ g p, e = .returned (.pointer (some ⟨g, 0, none⟩)) ∧ Hid (FlashAt w' g p N (FS.fresh N)) ∧ Hid (Chg nowhere w w') ∧ w.heap.size ≤ g ∧ w.heap.size ≤ p := by
  have hmk := makePages N h2
  have e1 : (1 : Int) ≤ N := by omega
  have e2 : (N : Int) ≤ 256 := by omega
  have e3 : ¬ (N : Int) < 1 := by omega
  have e4 : ¬ (256 : Int) < N := by omega
  go_enter Try.func17, Try.ntmps17
  go_wp2_with fail
  have HC0 : Hid (Chg nowhere w ((w.alloc (.cells (noughtCells (N * 64)) 89)).alloc (.cells #[.slice (some ⟨w.heap.size, 0, none⟩) N N, .bool false, .bool false, .int .i64 0, .int .i64 0] 87))) := Lib.hid (((Chg.refl _ _).alloc _).alloc _)
  have HB0 : Hid (BlkB ((w.alloc (.cells (noughtCells (N * 64)) 89)).alloc (.cells #[.slice (some ⟨w.heap.size, 0, none⟩) N N, .bool false, .bool false, .int .i64 0, .int .i64 0] 87)) w.heap.size 89 (half 0 N)) := Lib.hid (by
    have h := (Blk.new w 89 (noughtCells (N * 64))).alloc (.cells #[.slice (some ⟨w.heap.size, 0, none⟩) N N, .bool false, .bool false, .int .i64 0, .int .i64 0] 87)
    have h2 : half 0 N = noughts (N * 64) := by simp [half, noughts]
    rw [h2]
    exact h)
  have HH0 : Hid (Blk ((w.alloc (.cells (noughtCells (N * 64)) 89)).alloc (.cells #[.slice (some ⟨w.heap.size, 0, none⟩) N N, .bool false, .bool false, .int .i64 0, .int .i64 0] 87)) (w.heap.size + 1) 87 #[.slice (some ⟨w.heap.size, 0, none⟩) N N, .bool false, .bool false, .int .i64 0, .int .i64 0]) := Lib.hid (by
    have h := Blk.new (w.alloc (.cells (noughtCells (N * 64)) 89)) 87 #[.slice (some ⟨w.heap.size, 0, none⟩) N N, .bool false, .bool false, .int .i64 0, .int .i64 0]
    simpa using h)
  have hN9 : N ≤ 9223372036854775807 := by omega
  clear hmk
  go_loopw [16] (fun t wr => ∃ k : Nat, k ≤ N ∧ t = .int .i64 k ∧ Blk wr (w.heap.size + 1) 87 #[.slice (some ⟨w.heap.size, 0, none⟩) N N, .bool false, .bool false, .int .i64 0, .int .i64 0] ∧ BlkB wr w.heap.size 89 (half k N) ∧ Chg nowhere w wr) (fun t _ => N - (intOf t).toNat)
  case atStart => exact ⟨0, Nat.zero_le _, rfl, HH0.out, HB0.out, HC0.out⟩
  case round =>
    obtain ⟨k, hk, rfl, hh, hb, hc⟩ := hrel
    have HH := Lib.hid hh
    have HB := Lib.hid hb
    have HC := Lib.hid hc
    have hc0 : wr.cell? ⟨w.heap.size + 1, 0, none⟩ = some (.slice (some ⟨w.heap.size, 0, none⟩) N N) := hh.cell 0
    clear hh hb hc
    by_cases hlt : k < N
    · have f1 : (k : Int) < N := by omega
      have hl := half_len hk
      go_wp2_with fail
      refine (erase_calls w.heap.size (k * 64) 64 64 89 (half k N) _ HB.out (by omega) (by omega)).mono ?_
      rintro e w2 ⟨rfl, h3, h4⟩
      rw [half_step hlt] at h3
      have HH2 := Lib.hid (HH.out.chg h4.out (fun (e : w.heap.size + 1 = w.heap.size) => by omega))
      have HC2 := Lib.hid (HC.out.step h4.out (by rintro x rfl; exact Nat.le_refl _))
      clear h4
      go_wp2_with fail
      exact ⟨⟨k + 1, by omega, by go_num, HH2.out, h3.out, HC2.out⟩, by simp [intOf]; omega⟩
    · have f1 : (N : Int) ≤ k := by omega
      have hkN : k = N := by omega
      subst hkN
      have hfr : half k k = (FS.fresh k).pages := by simp [half, FS.fresh, ones, Nat.mul_comm]
      rw [hfr] at HB
      clear hfr
      go_wp2_with fail
      go_ret
      exact ⟨w.heap.size + 1, w.heap.size, rfl, ⟨HH.out, HB.out, by omega, FS.fresh_ok h2⟩, HC.out, by omega, Nat.le_refl _⟩
theorem fuse_ok {s : FS} {N : Nat} (h : s.ok N) (n t : Int) (hn : n ≤ 9223372036854775807) : ({ s with fused := decide (0 ≤ n), left := n, tear := (min (max t 0) 64).toNat } : FS).ok N :=
  ⟨h.len, h.fit, h.most, by show (min (max t 0) 64).toNat ≤ 64; omega, fun hf => ⟨by simpa using hf, hn⟩⟩
set_option maxRecDepth 100000 in
theorem Boot_calls (g p N : Nat) (s : FS) (w : World) (h : FlashAt w g p N s) :
    Calls Try.prog 27 #[.pointer (some ⟨g, 0, none⟩)] w fun e w' => e = .returned (.tuple #[]) ∧ Hid (FlashAt w' g p N { s with dead := false, fused := false }) ∧ Hid (Chg (Two g p) w w') := by
  obtain ⟨_, hc1, hc2, _, _, hf⟩ := h.cells
  have hf1 := hf 1
  have hf2 := hf 2
  have HP : Hid (FlashAt ((w.setCell ⟨g, 1, none⟩ (.bool false)).setCell ⟨g, 2, none⟩ (.bool false)) g p N { s with dead := false, fused := false }) :=
    Lib.hid ⟨(h.head.set_ 1 _).set_ 2 _, Blk.far (p := ⟨g, 2, none⟩) (Blk.far (p := ⟨g, 1, none⟩) h.body h.ne _) h.ne _, h.ne, ⟨h.ok.len, h.ok.fit, h.ok.most, h.ok.tear, fun h => by cases h⟩⟩
  have HC : Hid (Chg (Two g p) w ((w.setCell ⟨g, 1, none⟩ (.bool false)).setCell ⟨g, 2, none⟩ (.bool false))) := Lib.hid (((Chg.refl _ w).setCell (p := ⟨g, 1, none⟩) (fun _ => .inl rfl) _).setCell (p := ⟨g, 2, none⟩) (fun _ => .inl rfl) _)
  clear hf h
  go_enter Try.func27, Try.ntmps27
  go_wp2_with fail
  go_end0
  exact ⟨rfl, HP, HC⟩
theorem Dead_calls (g p N : Nat) (s : FS) (w : World) (h : FlashAt w g p N s) :
    Calls Try.prog 54 #[.pointer (some ⟨g, 0, none⟩)] w fun e w' => e = .returned (.bool s.dead) ∧ w' = w := by
  obtain ⟨_, hc1, _⟩ := h.cells
  clear h
  go_enter Try.func54, Try.ntmps54
  go_wp2_with fail
  go_ret
  exact ⟨rfl, rfl⟩
end Go.Proofs.Ytekjahofghmdgaa
