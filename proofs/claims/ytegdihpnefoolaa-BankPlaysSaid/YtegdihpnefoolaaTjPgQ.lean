/- PgP, PgQ -/
import Derived.Test.YtegdihpnefoolaaTjRfN
import Derived.Test.YtegdihpnefoolaaTjPgLong
section
open Go Go.RowKit
namespace Go.Proofs.Ytegdihpnefoolaa
set_option maxRecDepth 100000 in
set_option maxHeartbeats 1600000 in
theorem NewLow_calls (n : Int) (hn : n < 1) (w : World) :
    Calls Try.prog 11 #[.int .i64 n] w fun e w' => ∃ g p, e = .returned (.pointer (some ⟨g, 0, none⟩)) ∧ Hid (FlashAt w' g p 1 (FS.fresh 1)) ∧ Hid (Chg nowhere w w') ∧ w.heap.size ≤ g ∧ w.heap.size ≤ p := by
  have hmk : ∀ w, (Instr.makeSlice 71 (.int .i64 1) (.int .i64 1)).run Try.prog w = .ok (.slice (some ⟨w.heap.size, 0, none⟩) 1 1) (w.alloc (.cells (noughtCells (1 * 64)) 75)) := makePages 1 (by decide)
  go_enter Try.func11, Try.ntmps11
  go_wp2_with fail
  have HC0 : Hid (Chg nowhere w ((w.alloc (.cells (noughtCells (1 * 64)) 75)).alloc (.cells #[.slice (some ⟨w.heap.size, 0, none⟩) 1 1, .bool false, .bool false, .int .i64 0, .int .i64 0] 73))) := Lib.hid (((Chg.refl _ _).alloc _).alloc _)
  have HB0 : Hid (BlkB ((w.alloc (.cells (noughtCells (1 * 64)) 75)).alloc (.cells #[.slice (some ⟨w.heap.size, 0, none⟩) 1 1, .bool false, .bool false, .int .i64 0, .int .i64 0] 73)) w.heap.size 75 (half 0 1)) := Lib.hid (by
    have h := (Blk.new w 75 (noughtCells (1 * 64))).alloc (.cells #[.slice (some ⟨w.heap.size, 0, none⟩) 1 1, .bool false, .bool false, .int .i64 0, .int .i64 0] 73)
    have h2 : half 0 1 = noughts (1 * 64) := by simp [half, noughts]
    rw [h2]
    exact h)
  have HH0 : Hid (Blk ((w.alloc (.cells (noughtCells (1 * 64)) 75)).alloc (.cells #[.slice (some ⟨w.heap.size, 0, none⟩) 1 1, .bool false, .bool false, .int .i64 0, .int .i64 0] 73)) (w.heap.size + 1) 73 #[.slice (some ⟨w.heap.size, 0, none⟩) 1 1, .bool false, .bool false, .int .i64 0, .int .i64 0]) := Lib.hid (by
    have h := Blk.new (w.alloc (.cells (noughtCells (1 * 64)) 75)) 73 #[.slice (some ⟨w.heap.size, 0, none⟩) 1 1, .bool false, .bool false, .int .i64 0, .int .i64 0]
    simpa using h)
  clear hmk
  go_loopw [16] (fun t wr => ∃ k : Nat, k ≤ 1 ∧ t = .int .i64 k ∧ Blk wr (w.heap.size + 1) 73 #[.slice (some ⟨w.heap.size, 0, none⟩) 1 1, .bool false, .bool false, .int .i64 0, .int .i64 0] ∧ BlkB wr w.heap.size 75 (half k 1) ∧ Chg nowhere w wr) (fun t _ => 1 - (intOf t).toNat)
  case atStart => exact ⟨0, Nat.zero_le _, rfl, HH0.out, HB0.out, HC0.out⟩
  case round =>
    obtain ⟨k, hk, rfl, hh, hb, hc⟩ := hrel
    have HH := Lib.hid hh
    have HB := Lib.hid hb
    have HC := Lib.hid hc
    have hc0 : wr.cell? ⟨w.heap.size + 1, 0, none⟩ = some (.slice (some ⟨w.heap.size, 0, none⟩) 1 1) := hh.cell 0
    clear hh hb hc
    by_cases hlt : k < 1
    · have f1 : (k : Int) < 1 := by omega
      have hl := half_len hk
      go_wp2_with fail
      refine (erase_calls w.heap.size (k * 64) 64 64 75 (half k 1) _ HB.out (by omega) (by omega)).mono ?_
      rintro e w2 ⟨rfl, h3, h4⟩
      rw [half_step hlt] at h3
      have HH2 := Lib.hid (HH.out.chg h4.out (fun (e : w.heap.size + 1 = w.heap.size) => by omega))
      have HC2 := Lib.hid (HC.out.step h4.out (by rintro x rfl; exact Nat.le_refl _))
      clear h4
      go_wp2_with fail
      exact ⟨⟨k + 1, by omega, by go_num, HH2.out, h3.out, HC2.out⟩, by simp [intOf]; omega⟩
    · have f1 : (1 : Int) ≤ k := by omega
      have hkN : k = 1 := by omega
      subst hkN
      have hfr : half 1 1 = (FS.fresh 1).pages := by simp [half, FS.fresh, ones, Nat.mul_comm]
      rw [hfr] at HB
      clear hfr
      go_wp2_with fail
      go_ret
      exact ⟨w.heap.size + 1, w.heap.size, rfl, ⟨HH.out, HB.out, by omega, FS.fresh_ok (by decide)⟩, HC.out, by omega, Nat.le_refl _⟩
/-- the program's flash and the reference's are one -/
structure Rel (s : FS) (r : RFS) (N : Nat) : Prop where
  num : r.pgs.length = N
  page : ∀ j, j < N → r.pageN j = s.page j
  off : r.off = s.dead
  left : r.left = if s.fused = true then s.left else -1
  tear : r.tear = s.tear
theorem Rel.fresh (N : Nat) : Rel (FS.fresh N) (RFS.fresh N) N := by
  refine ⟨List.length_replicate, fun j hj => ?_, rfl, rfl, rfl⟩
  show (List.replicate N (ones 64)).getD j [] = ((ones (64 * N)).drop (j * 64)).take 64
  rw [List.getD_eq_getElem?_getD, List.getElem?_replicate, if_pos hj]
  show List.replicate 64 255 = _
  rw [ones, List.drop_replicate, List.take_replicate]
  congr 1
  omega
theorem Rel.bounds {s : FS} {r : RFS} {N : Nat} (h : Rel s r N) (ok : s.ok N) : -1 ≤ r.left ∧ r.left ≤ 9223372036854775807 := by
  rw [h.left]
  split
  · rename_i hf
    have := ok.left hf
    omega
  · decide
theorem Rel.boot {s : FS} {r : RFS} {N : Nat} (h : Rel s r N) : Rel { s with dead := false, fused := false } { r with left := -1, off := false } N := ⟨h.num, h.page, rfl, rfl, h.tear⟩
theorem Rel.fuse {s : FS} {r : RFS} {N : Nat} (h : Rel s r N) (n t : Int) : Rel { s with fused := decide (0 ≤ n), left := n, tear := (min (max t 0) 64).toNat } { r with left := max n (-1), tear := (min (max t 0) 64).toNat } N := by
  refine ⟨h.num, h.page, h.off, ?_, rfl⟩
  show max n (-1) = if decide (0 ≤ n) = true then n else -1
  by_cases hn : 0 ≤ n
  · simp [hn]; omega
  · simp [hn]; omega
/-- a deed on the whole row does to one page what this does to the page -/
def Deals (f : Deed) (F : List UInt8 → Nat → List UInt8) (N m : Nat) : Prop := ∀ (s : FS) (i k : Nat), s.pages.length = 64 * s.cap → N ≤ s.cap → i < N → k ≤ m → k ≤ 64 → ({ s with pages := f s.pages (i * 64) k } : FS).page i = F (s.page i) k ∧ ∀ j, j < N → j ≠ i → ({ s with pages := f s.pages (i * 64) k } : FS).page j = s.page j
theorem deals_er (N m : Nat) : Deals erD erF N m := fun s i k hl hN hi _ hk => by
  have hi2 : i < s.cap := Nat.lt_of_lt_of_le hi hN
  refine ⟨?_, fun j hj hji => ?_⟩
  · have := page_patch_same (s := s) (N := s.cap) (i := i) (ys := List.replicate k 255) hl hi2 (by simpa using hk)
    rw [List.length_replicate] at this
    exact this
  · exact page_patch_other (s := s) (N := s.cap) (i := i) (ys := List.replicate k 255) hl hi2 (by simpa using hk) hji
theorem deals_pr (b : List UInt8) (N : Nat) : Deals (prD b) (prF b) N b.length := fun s i k hl hN hi hkb hk => by
  have hi2 : i < s.cap := Nat.lt_of_lt_of_le hi hN
  have hlen : (fall ((s.pages.drop (i * 64)).take k) (b.take k)).length = k := by
    simp [fall]
    omega
  refine ⟨?_, fun j hj hji => ?_⟩
  · have := page_patch_same (s := s) (N := s.cap) (i := i) (ys := fall ((s.pages.drop (i * 64)).take k) (b.take k)) hl hi2 (by omega)
    rw [hlen] at this
    have e : (s.page i).take k = (s.pages.drop (i * 64)).take k := by
      unfold FS.page
      rw [List.take_take, Nat.min_eq_left hk]
    unfold prF
    rw [e]
    exact this
  · exact page_patch_other (s := s) (N := s.cap) (i := i) (ys := fall ((s.pages.drop (i * 64)).take k) (b.take k)) hl hi2 (by omega) hji
theorem pageN_set_same (r : RFS) (i : Nat) (p : List UInt8) (h : i < r.pgs.length) (l : Int) (t : Nat) (o : Bool) : (⟨r.pgs.set i p, l, t, o⟩ : RFS).pageN i = p := by
  simp [RFS.pageN, List.getD_eq_getElem?_getD, h]
theorem pageN_set_other (r : RFS) (i j : Nat) (p : List UInt8) (h : i ≠ j) (l : Int) (t : Nat) (o : Bool) : (⟨r.pgs.set i p, l, t, o⟩ : RFS).pageN j = r.pageN j := by
  simp [RFS.pageN, List.getD_eq_getElem?_getD, List.getElem?_set_ne h]
/-- an act gives the same answer in both, and leaves them one -/
theorem Rel.act {s : FS} {r : RFS} {N : Nat} (h : Rel s r N) (ok : s.ok N) (i : Int) (m : Nat) (f : Deed) (F : List UInt8 → Nat → List UInt8) (hd : Deals f F N m) :
    (s.change N i m f).1 = (r.act i m F).1 ∧ Rel (s.change N i m f).2 (r.act i m F).2 N := by
  unfold FS.change RFS.act
  rw [h.off]
  cases hdd : s.dead
  case true =>
    rw [if_pos (show true = true from rfl), if_pos (show true = true from rfl)]
    exact ⟨rfl, h⟩
  case false =>
    rw [if_neg (show ¬ (false = true) from Bool.false_ne_true), if_neg (show ¬ (false = true) from Bool.false_ne_true), h.num]
    by_cases hb : i < 0 ∨ (N : Int) ≤ i ∨ 64 < m
    · rw [if_pos hb, if_pos hb]
      exact ⟨rfl, h⟩
    · rw [if_neg hb, if_neg hb]
      have hm : m ≤ 64 := by omega
      have hi : i.toNat < N := by omega
      have hlen := ok.len
      have hN := ok.fit
      have htr := ok.tear
      obtain ⟨d1, d2⟩ := hd s i.toNat (min m s.tear) hlen hN hi (by omega) (by omega)
      obtain ⟨e1, e2⟩ := hd s i.toNat m hlen hN hi (Nat.le_refl _) hm
      have hpi := h.page i.toNat hi
      have hir : i.toNat < r.pgs.length := by rw [h.num]; exact hi
      have hleft := h.left
      have hmm : min m 64 = m := Nat.min_eq_left hm
      cases hf : s.fused
      case false =>
        rw [hf] at hleft
        have hl1 : r.left = -1 := hleft
        have hb1 : s.burn = (false, s) := by unfold FS.burn; rw [if_pos hf]
        have hb2 : r.burn = (64, 0, r) := by unfold RFS.burn; rw [if_neg (by omega), if_neg (by omega)]
        rw [hb1, hb2, if_neg (show ¬ ((false, s).1 = true) from Bool.false_ne_true)]
        refine ⟨rfl, ?_, fun j hj => ?_, h.off, ?_, h.tear⟩
        · show (r.pgs.set _ _).length = N
          rw [List.length_set, h.num]
        · by_cases hji : j = i.toNat
          · subst hji
            exact (pageN_set_same r _ _ hir _ _ _).trans (by rw [hpi]; show F _ (min m 64) = _; rw [hmm]; exact e1.symm)
          · exact ((pageN_set_other r _ _ _ (fun e => hji e.symm) _ _ _).trans (h.page j hj)).trans (e2 j hj hji).symm
        · show r.left = if s.fused = true then s.left else -1
          rw [hf, hl1]
          rfl
      case true =>
        rw [hf, if_pos (show true = true from rfl)] at hleft
        have hlo := (ok.left hf).1
        by_cases hz : s.left = 0
        · have hb1 : s.burn = (true, s) := by unfold FS.burn; rw [if_neg (by rw [hf]; decide), if_pos hz]
          have hb2 : r.burn = (r.tear, 11, { r with off := true }) := by unfold RFS.burn; rw [if_pos (by rw [hleft]; exact hz)]
          rw [hb1, hb2, if_pos (show (true, s).1 = true from rfl)]
          refine ⟨rfl, ?_, fun j hj => ?_, rfl, ?_, h.tear⟩
          · show (r.pgs.set _ _).length = N
            rw [List.length_set, h.num]
          · by_cases hji : j = i.toNat
            · subst hji
              exact (pageN_set_same r _ _ hir _ _ _).trans (by rw [hpi]; show F _ (min m r.tear) = _; rw [h.tear]; exact d1.symm)
            · exact ((pageN_set_other r _ _ _ (fun e => hji e.symm) _ _ _).trans (h.page j hj)).trans (d2 j hj hji).symm
          · show r.left = if s.fused = true then s.left else -1
            rw [hf, hleft]
            rfl
        · have hb1 : s.burn = (false, { s with left := s.left - 1 }) := by unfold FS.burn; rw [if_neg (by rw [hf]; decide), if_neg hz]
          have hb2 : r.burn = (64, 0, { r with left := r.left - 1 }) := by unfold RFS.burn; rw [if_neg (by rw [hleft]; exact hz), if_pos (by rw [hleft]; omega)]
          rw [hb1, hb2, if_neg (show ¬ ((false, ({ s with left := s.left - 1 } : FS)).1 = true) from Bool.false_ne_true)]
          refine ⟨rfl, ?_, fun j hj => ?_, h.off, ?_, h.tear⟩
          · show (r.pgs.set _ _).length = N
            rw [List.length_set, h.num]
          · by_cases hji : j = i.toNat
            · subst hji
              exact (pageN_set_same r _ _ hir _ _ _).trans (by rw [hpi]; show F _ (min m 64) = _; rw [hmm]; exact e1.symm)
            · exact ((pageN_set_other r _ _ _ (fun e => hji e.symm) _ _ _).trans (h.page j hj)).trans (e2 j hj hji).symm
          · show r.left - 1 = if s.fused = true then s.left - 1 else -1
            rw [hf, hleft]
            rfl
end Go.Proofs.Ytegdihpnefoolaa
end
section
open Go Go.RowKit
namespace Go.Proofs.Ytegdihpnefoolaa
instance : RowC ActS := ⟨5, ActS.cells, fun _ => rfl, fun a u hu => by
  simp only [ActS.cells, List.mem_cons, List.not_mem_nil, or_false] at hu
  rcases hu with rfl | rfl | rfl | rfl | rfl <;> rfl, ⟨0, 0, none, 0, [], 0, 0⟩⟩
/-- what an act writes of old -/
def PT (g p : Nat) (T : Nat → Prop) : Nat → Prop := fun k => Two g p k ∨ T k
instance (w : World) (g p : Nat) (T : Nat → Prop) : Sub w (Two g p) (PT g p T) := ⟨fun _ _ h => .inl h⟩
instance (w : World) (g p : Nat) (T : Nat → Prop) : Sub w T (PT g p T) := ⟨fun _ _ h => .inr h⟩
instance (w : World) (g p : Nat) (T : Nat → Prop) : Into w (Two g p) (PT g p T) := ⟨fun _ _ h => .inl h⟩
instance (w : World) (g p : Nat) (T : Nat → Prop) : Into w T (PT g p T) := ⟨fun _ _ h => .inr h⟩
instance (w : World) (T : Nat → Prop) : Into w T T := ⟨fun _ _ h => h⟩
theorem FlashAt.nw {w0 w : World} [n : Nw w0 w] {g p N : Nat} {s : FS} (h : FlashAt w0 g p N s) : FlashAt w g p N s := h.calm n.out
theorem FlashAt.ch {w0 w : World} {S : Nat → Prop} [c : Ch S w0 w] {g p N : Nat} {s : FS} (h : FlashAt w0 g p N s) (hg : ¬ S g) (hp : ¬ S p) : FlashAt w g p N s := h.chg c.out hg hp
theorem RF.nw {w0 w : World} [n : Nw w0 w] {x : Nat} {T : Nat → Prop} {s : RFS} (h : RF w0 x T s) : RF w x T s := h.calm n.out
theorem RF.ch {w0 w : World} {S : Nat → Prop} [c : Ch S w0 w] {x : Nat} {T : Nat → Prop} {s : RFS} (h : RF w0 x T s) (hS : ∀ k, T k → ¬ S k) : RF w x T s := h.far c.out hS
theorem FlashAt.lts {w : World} {g p N : Nat} {s : FS} (h : FlashAt w g p N s) : g < w.heap.size ∧ p < w.heap.size := ⟨h.head.lt, Blk.lt h.body⟩
def ActPost (g p N x : Nat) (T : Nat → Prop) (w w' : World) (e : Ending) : Prop := e = .returned (.bool true) ∧ ∃ s' r', FlashAt w' g p N s' ∧ RF w' x T r' ∧ Rel s' r' N ∧ Chg (PT g p T) w w'
end Go.Proofs.Ytegdihpnefoolaa
end
