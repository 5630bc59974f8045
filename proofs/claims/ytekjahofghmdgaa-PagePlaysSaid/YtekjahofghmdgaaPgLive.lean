/- Flash: one that works; what its deeds do to its pages. -/
import Derived.Test.YtekjahofghmdgaaPgL
open Go Go.RowKit
namespace Go.Proofs.Ytekjahofghmdgaa
theorem u8_andNot_zero (z x : UInt8) (h : z &&& x = z) : bits .andNot .u8 (z.toNat : Int) (x.toNat : Int) = 0 := by
  have h1 := z.toNat_lt
  have h2 := x.toNat_lt
  rw [u8_andNot_nat _ _ (by omega) (by omega)]
  have h3 : z.toNat &&& x.toNat = z.toNat := by rw [← UInt8.toNat_and, h]
  have h4 : z.toNat &&& (255 - x.toNat) = 0 := by
    apply Nat.eq_of_testBit_eq
    intro i
    rw [Nat.testBit_and, show 255 - x.toNat = 2 ^ 8 - (x.toNat + 1) by omega, Nat.testBit_two_pow_sub_succ (by omega), Nat.zero_testBit]
    have h5 := congrArg (fun n => Nat.testBit n i) h3
    simp only [Nat.testBit_and] at h5
    rcases hz : z.toNat.testBit i with _ | _
    · rfl
    · rw [hz] at h5
      simp only [Bool.true_and] at h5
      rw [h5]
      simp
  rw [h4]
  rfl
theorem prog_below {pg b : List UInt8} {i : Nat} {z x : UInt8} (h : pg.length = 64) (hb : b.length ≤ 64) (hz : (prog pg b)[i]? = some z) (hx : pg[i]? = some x) : z &&& x = z := by
  unfold prog at hz
  have h1 : (fall (pg.take b.length) b).length = b.length := by simp [fall]; omega
  rcases Nat.lt_or_ge i b.length with hi | hi
  · rw [List.getElem?_append_left (by omega)] at hz
    unfold fall at hz
    rw [List.getElem?_zipWith, List.getElem?_take, if_pos hi, hx, List.getElem?_eq_getElem hi] at hz
    injection hz with hz
    rw [← hz, UInt8.and_assoc, UInt8.and_comm b[i] x, ← UInt8.and_assoc, UInt8.and_self]
  · rw [List.getElem?_append_right (by omega), h1, List.getElem?_drop, Nat.add_sub_cancel' hi, hx] at hz
    injection hz with hz
    rw [hz, UInt8.and_self]
/-- a flash that works, with these pages -/
structure Live (w : World) (g p N : Nat) (ps : List UInt8) : Prop where
  at_ : ∃ s : FS, FlashAt w g p N s ∧ s.pages = ps ∧ s.dead = false ∧ s.fused = false ∧ s.cap = N
def pageOf (ps : List UInt8) (i : Nat) : List UInt8 := (ps.drop (i * 64)).take 64
theorem Live.lts {w : World} {g p N : Nat} {ps : List UInt8} (h : Live w g p N ps) : g < w.heap.size ∧ p < w.heap.size ∧ ps.length = 64 * N := by
  obtain ⟨s, hs, rfl, _, _, h4⟩ := h.at_
  exact ⟨hs.head.lt, Blk.lt hs.body, by rw [hs.ok.len, h4]⟩
theorem Live.calm {w w' : World} {g p N : Nat} {ps : List UInt8} (h : Live w g p N ps) (hc : Chg nowhere w w') : Live w' g p N ps := by
  obtain ⟨s, hs, h1, h2, h3⟩ := h.at_
  exact ⟨s, hs.calm hc, h1, h2, h3⟩
theorem Live.far {S : Nat → Prop} {w w' : World} {g p N : Nat} {ps : List UInt8} (h : Live w g p N ps) (hc : Chg S w w') (hg : ¬ S g) (hp : ¬ S p) : Live w' g p N ps := by
  obtain ⟨s, hs, h1, h2, h3⟩ := h.at_
  exact ⟨s, hs.chg hc hg hp, h1, h2, h3⟩
theorem Live.new {w : World} {g p N : Nat} (h : FlashAt w g p N (FS.fresh N)) : Live w g p N (ones (64 * N)) := ⟨_, h, rfl, rfl, rfl, rfl⟩
theorem Live_program (g p N : Nat) (ps : List UInt8) (i : Nat) (B : Option Addr) (nb cb : Nat) (ys : List UInt8) (w : World) (h : Live w g p N ps) (hi : i < N) (hy : Rd w B (bs ys)) (hyn : ys.length = nb) (hB : Apart (Two g p) B (bs ys)) (hn : nb ≤ 64) :
    Calls Try.prog 37 #[.pointer (some ⟨g, 0, none⟩), .int .i64 i, .slice B nb cb] w fun e w' => e = .returned (.int .i64 0) ∧ Hid (Live w' g p N (prD ys ps (i * 64) ys.length)) ∧ Hid (Chg (Two g p) w w') := by
  obtain ⟨s, hs, rfl, h2, h3⟩ := h.at_
  refine (Program_calls g p N s i B nb cb ys w hs hy hyn hB (by omega)).mono ?_
  rintro e w' ⟨rfl, h4, h5⟩
  rw [FS.change_plain h2 h3.1 hi hn] at h4 ⊢
  exact ⟨rfl, ⟨_, h4.out, by rw [hyn], h2, h3⟩, h5⟩
theorem Live_erase (g p N : Nat) (ps : List UInt8) (i : Nat) (w : World) (h : Live w g p N ps) (hi : i < N) :
    Calls Try.prog 36 #[.pointer (some ⟨g, 0, none⟩), .int .i64 i] w fun e w' => e = .returned (.int .i64 0) ∧ Hid (Live w' g p N (erD ps (i * 64) 64)) ∧ Hid (Chg (Two g p) w w') := by
  obtain ⟨s, hs, rfl, h2, h3⟩ := h.at_
  refine (Erase_calls g p N s i w hs).mono ?_
  rintro e w' ⟨rfl, h4, h5⟩
  rw [FS.change_plain h2 h3.1 hi (by decide)] at h4 ⊢
  exact ⟨rfl, ⟨_, h4.out, rfl, h2, h3⟩, h5⟩
theorem Live_read (g p N : Nat) (ps : List UInt8) (i : Nat) (w : World) (h : Live w g p N ps) (hi : i < N) :
    Calls Try.prog 35 #[.pointer (some ⟨g, 0, none⟩), .int .i64 i] w fun e w' => ∃ gb c, e = .returned (.tuple #[.slice (some ⟨gb, 0, none⟩) 64 c, .int .i64 0]) ∧ Hid (Own w' 5 1 (some ⟨gb, 0, none⟩) 64 c (bs (pageOf ps i))) ∧
      Hid (Chg nowhere w w') ∧ Hid (w.heap.size ≤ gb) := by
  obtain ⟨s, hs, rfl, h2, h3⟩ := h.at_
  refine (Read_yes g p N s i w hs hi).mono ?_
  rintro e w' ⟨A, c, rfl, h4, h5, h6⟩
  rcases h4.out.form with ⟨_, h, _⟩ | ⟨gb, cur, rfl, _⟩
  · cases h
  · exact ⟨gb, c, rfl, h4, h5, h6.out _ rfl⟩
theorem pageOf_len {ps : List UInt8} {N i : Nat} (h : ps.length = 64 * N) (hi : i < N) : (pageOf ps i).length = 64 := by simp [pageOf]; omega
theorem pageOf_prD {ps b : List UInt8} {N i : Nat} (h : ps.length = 64 * N) (hi : i < N) (hb : b.length ≤ 64) : pageOf (prD b ps (i * 64) b.length) i = prog (pageOf ps i) b :=
  prD_page (s := ⟨ps, false, false, 0, 0, 0⟩) h hi hb
theorem pageOf_prD_other {ps b : List UInt8} {N i j : Nat} (h : ps.length = 64 * N) (hi : i < N) (hb : b.length ≤ 64) (hj : j ≠ i) : pageOf (prD b ps (i * 64) b.length) j = pageOf ps j :=
  prD_other (s := ⟨ps, false, false, 0, 0, 0⟩) h hi hb hj
theorem pageOf_erD {ps : List UInt8} {N i : Nat} (h : ps.length = 64 * N) (hi : i < N) : pageOf (erD ps (i * 64) 64) i = ones 64 := erD_page (s := ⟨ps, false, false, 0, 0, 0⟩) h hi
theorem pageOf_erD_other {ps : List UInt8} {N i j : Nat} (h : ps.length = 64 * N) (hi : i < N) (hj : j ≠ i) : pageOf (erD ps (i * 64) 64) j = pageOf ps j := erD_other (s := ⟨ps, false, false, 0, 0, 0⟩) h hi hj
theorem Live_program_bad (g p N : Nat) (ps : List UInt8) (i : Int) (B : Option Addr) (nb cb : Nat) (ys : List UInt8) (w : World) (h : Live w g p N ps) (hi : i < 0 ∨ (N : Int) ≤ i ∨ 64 < nb) (hy : Rd w B (bs ys)) (hyn : ys.length = nb) (hB : Apart (Two g p) B (bs ys)) (hn : nb ≤ 9223372036854775807) :
    Calls Try.prog 37 #[.pointer (some ⟨g, 0, none⟩), .int .i64 i, .slice B nb cb] w fun e w' => e = .returned (.int .i64 1) ∧ Hid (Live w' g p N ps) ∧ Hid (Chg (Two g p) w w') := by
  obtain ⟨s, hs, rfl, h2, h3⟩ := h.at_
  refine (Program_calls g p N s i B nb cb ys w hs hy hyn hB hn).mono ?_
  rintro e w' ⟨rfl, h4, h5⟩
  rw [FS.change_bad h2 hi] at h4 ⊢
  exact ⟨rfl, ⟨_, h4.out, rfl, h2, h3⟩, h5⟩
theorem own_far {w w' : World} {e : TypeId} {gx n c : Nat} {xs : List Value} {g p : Nat} {w0 : World} (h : Own w e 1 (some ⟨gx, 0, none⟩) n c xs) (hc : Chg (Two g p) w w') (hx : w0.heap.size ≤ gx) (hg : g < w0.heap.size) (hp : p < w0.heap.size) : Own w' e 1 (some ⟨gx, 0, none⟩) n c xs :=
  h.chg hc (fun ad e hT => by
    injection e with e; subst e
    rcases hT with h | h
    · have h' : gx = g := h; omega
    · have h' : gx = p := h; omega)
set_option maxRecDepth 100000 in
set_option maxHeartbeats 400000 in
theorem Fuse_calls (g p N : Nat) (s : FS) (n t : Int) (w : World) (h : FlashAt w g p N s) (hn : n ≤ 9223372036854775807) :
    Calls Try.prog 25 #[.pointer (some ⟨g, 0, none⟩), .int .i64 n, .int .i64 t] w fun e w' => e = .returned (.tuple #[]) ∧ Hid (FlashAt w' g p N { s with fused := decide (0 ≤ n), left := n, tear := (min (max t 0) 64).toNat }) ∧ Hid (Chg (Two g p) w w') := by
  obtain ⟨_, _, hc2, hc3, hc4, hf⟩ := h.cells
  have hf2 := hf 2
  have hf3 := hf 3
  have hf4 := hf 4
  have hok := fuse_ok h.ok n t hn
  have HP : ∀ b : Bool, b = decide (0 ≤ n) → ∀ y : Int, y = ((min (max t 0) 64).toNat : Int) → Hid (FlashAt (((w.setCell ⟨g, 2, none⟩ (.bool b)).setCell ⟨g, 3, none⟩ (.int .i64 n)).setCell ⟨g, 4, none⟩ (.int .i64 y)) g p N { s with fused := decide (0 ≤ n), left := n, tear := (min (max t 0) 64).toNat }) := by
    rintro b rfl y rfl
    exact ⟨((h.head.set_ 2 _).set_ 3 _).set_ 4 _, Blk.far (p := ⟨g, 4, none⟩) (Blk.far (p := ⟨g, 3, none⟩) (Blk.far (p := ⟨g, 2, none⟩) h.body h.ne _) h.ne _) h.ne _, h.ne, hok⟩
  have HP' := Lib.hid HP
  have HC : Hid (∀ b y : Value, Chg (Two g p) w (((w.setCell ⟨g, 2, none⟩ b).setCell ⟨g, 3, none⟩ (.int .i64 n)).setCell ⟨g, 4, none⟩ y)) := Lib.hid (fun b y => (((Chg.refl _ w).setCell (p := ⟨g, 2, none⟩) (fun _ => .inl rfl) _).setCell (p := ⟨g, 3, none⟩) (fun _ => .inl rfl) _).setCell (p := ⟨g, 4, none⟩) (fun _ => .inl rfl) _)
  clear hf h hok HP
  rcases (show t < 0 ∨ (0 ≤ t ∧ t ≤ 64) ∨ 64 < t by omega) with h | ⟨h, h'⟩ | h
  all_goals
    go_enter Try.func25, Try.ntmps25
    go_wp2_with fail
    go_end0
    exact ⟨rfl, HP'.out _ rfl _ (by omega), HC.out _ _⟩
end Go.Proofs.Ytekjahofghmdgaa
