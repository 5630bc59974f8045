/- Flash: pages seen one by one; what the law knows by heart; bytes as a text. -/
import Derived.Test.YtekjahofghmdgaaPgN
import Derived.Laws.BytesArg
open Go Go.RowKit
namespace Go.Proofs.Ytekjahofghmdgaa
/-- a page of which the first bits fell -/
def prog (pg b : List UInt8) : List UInt8 := fall (pg.take b.length) b ++ pg.drop b.length
theorem FS.change_plain {N : Nat} {s : FS} {i n : Nat} {f : Deed} (hd : s.dead = false) (hf : s.fused = false) (hi : i < N) (hn : n ≤ 64) : s.change N i n f = (0, { s with pages := f s.pages (i * 64) n }) := by
  have hb : s.burn = (false, s) := by unfold FS.burn; rw [if_pos hf]
  unfold FS.change
  rw [if_neg (by simp [hd]), if_neg (by omega), hb, if_neg (by simp)]
  simp
theorem FS.change_bad {N : Nat} {s : FS} {i : Int} {n : Nat} {f : Deed} (hd : s.dead = false) (h : i < 0 ∨ (N : Int) ≤ i ∨ 64 < n) : s.change N i n f = (1, s) := by
  unfold FS.change
  rw [if_neg (by simp [hd]), if_pos h]
theorem page_patch_same {s : FS} {N i : Nat} {ys : List UInt8} (h : s.pages.length = 64 * N) (hi : i < N) (hy : ys.length ≤ 64) : ({ s with pages := patch s.pages (i * 64) ys } : FS).page i = ys ++ (s.page i).drop ys.length := by
  unfold FS.page patch
  show List.take 64 (List.drop (i * 64) (s.pages.take (i * 64) ++ ys ++ s.pages.drop (i * 64 + ys.length))) = _
  rw [List.append_assoc, List.drop_left' (by simp; omega), List.take_append, List.take_of_length_le hy, ← List.drop_drop, List.drop_take]
theorem page_patch_other {s : FS} {N i j : Nat} {ys : List UInt8} (h : s.pages.length = 64 * N) (hi : i < N) (hy : ys.length ≤ 64) (hj : j ≠ i) : ({ s with pages := patch s.pages (i * 64) ys } : FS).page j = s.page j := by
  unfold FS.page patch
  show List.take 64 (List.drop (j * 64) (s.pages.take (i * 64) ++ ys ++ s.pages.drop (i * 64 + ys.length))) = _
  apply List.ext_getElem?
  intro k
  rw [List.getElem?_take, List.getElem?_take]
  split
  · rw [List.getElem?_drop, List.getElem?_drop]
    rcases Nat.lt_or_gt_of_ne hj with h1 | h1
    · rw [List.append_assoc, List.getElem?_append_left (by simp; omega), List.getElem?_take, if_pos (by omega)]
    · rw [List.getElem?_append_right (by simp; omega)]
      have h2 : (List.take (i * 64) s.pages ++ ys).length = i * 64 + ys.length := by simp; omega
      rw [h2, List.getElem?_drop]
      congr 1
      omega
  · rfl
theorem prD_page {s : FS} {N i : Nat} {b : List UInt8} (h : s.pages.length = 64 * N) (hi : i < N) (hb : b.length ≤ 64) : ({ s with pages := prD b s.pages (i * 64) b.length } : FS).page i = prog (s.page i) b := by
  have hl : (s.page i).length = 64 := by simp [FS.page]; omega
  unfold prD
  rw [page_patch_same h hi (by simp [fall]; omega)]
  have e : (s.pages.drop (i * 64)).take b.length = (s.page i).take b.length := by
    unfold FS.page
    rw [List.take_take, Nat.min_eq_left hb]
  rw [e, List.take_length]
  unfold prog
  congr 2
  simp [fall, hl]
  omega
theorem prD_other {s : FS} {N i j : Nat} {b : List UInt8} (h : s.pages.length = 64 * N) (hi : i < N) (hb : b.length ≤ 64) (hj : j ≠ i) : ({ s with pages := prD b s.pages (i * 64) b.length } : FS).page j = s.page j :=
  page_patch_other h hi (by simp [fall]; omega) hj
theorem erD_page {s : FS} {N i : Nat} (h : s.pages.length = 64 * N) (hi : i < N) : ({ s with pages := erD s.pages (i * 64) 64 } : FS).page i = ones 64 := by
  have hl : (s.page i).length = 64 := by simp [FS.page]; omega
  unfold erD
  rw [page_patch_same h hi (by simp), List.length_replicate, List.drop_eq_nil_of_le (by omega), List.append_nil]
  rfl
theorem erD_other {s : FS} {N i j : Nat} (h : s.pages.length = 64 * N) (hi : i < N) (hj : j ≠ i) : ({ s with pages := erD s.pages (i * 64) 64 } : FS).page j = s.page j :=
  page_patch_other h hi (by simp) hj
theorem prog_len {pg b : List UInt8} (h : pg.length = 64) (hb : b.length ≤ 64) : (prog pg b).length = 64 := by simp [prog, fall]; omega
theorem fall_twice (pg b : List UInt8) (h : pg.length = b.length) : fall (fall pg b) b = fall pg b := by
  induction pg generalizing b with
  | nil => simp [fall]
  | cons x pg ih =>
    rcases b with _ | ⟨y, b⟩
    · simp at h
    · have := ih b (by simpa using h)
      simp only [fall, List.zipWith_cons_cons] at this ⊢
      rw [this, UInt8.and_assoc, UInt8.and_self]
theorem prog_twice {pg b : List UInt8} (h : pg.length = 64) (hb : b.length ≤ 64) : prog (prog pg b) b = prog pg b := by
  have h1 : (fall (pg.take b.length) b).length = b.length := by simp [fall]; omega
  unfold prog
  rw [List.take_left' h1, List.drop_left' h1, fall_twice _ _ (by simp; omega)]
def strB (xs : List UInt8) : ByteArray := ⟨xs.toArray⟩
theorem conv_own {w : World} {e : TypeId} {A : Option Addr} {n c : Nat} {xs : List UInt8} (h : Own w e 1 A n c (bs xs)) (hn : xs.length = n) : (convert 29 9 (.slice A n c)).run Try.prog w = .ok (.string (strB xs)) w := by
  rcases h.form with ⟨rfl, rfl, rfl, hx⟩ | ⟨g, cur, rfl, _⟩
  · have : xs = [] := List.eq_nil_of_length_eq_zero hn
    subst this
    rw [run_convert_bytes_nil w 29 5 Try.underlying29 Try.underlying5 0 0 9 Try.underlying9]
    rfl
  · have hr := h.rd
    rw [run_convert_bytes_arg w 29 5 Try.underlying29 Try.underlying5 g 0 n c (xs.map fun b => (b.toNat : Int)) (by simp [hn]) (fun i hi => by
      obtain ⟨ad, b, e1, hb, hc⟩ := hr.byte (k := i) (by omega)
      injection e1 with e1
      subst e1
      rw [add_row] at hc
      rw [Nat.zero_add, hc, List.getD_eq_getElem?_getD, List.getElem?_map, hb]
      rfl) 9 Try.underlying9]
    have e : (xs.map fun b => (b.toNat : Int)).map (fun n => UInt8.ofNat n.toNat) = xs := by
      rw [List.map_map]
      refine (List.map_congr_left (g := id) (fun b _ => ?_)).trans (List.map_id xs)
      simp
    unfold strOfNums strB
    rw [e]
set_option maxRecDepth 100000 in
set_option maxHeartbeats 800000 in
theorem pgKnown_calls (w : World) :
    Calls Try.prog 21 #[] w fun e w' => e = .returned (.bool true) ∧ Hid (Chg nowhere w w') := by
  go_enter Try.func21, Try.ntmps21
  go_wp2_with fail
  refine (New_calls 1 _ (by decide) (by decide)).mono ?_
  rintro e w1 ⟨g, p, rfl, h1, hc1, hg, hp⟩
  go_wp2_with fail
  refine (Program_calls g p 1 (FS.fresh 1) 0 _ 1 _ [15] _ (h1.out.calm ((Chg.refl _ _).alloc _)) (Rd.lit _ [_] _) rfl ?_ (by decide)).mono ?_
  · rintro _ ad e (h | h)
    · injection e with e; subst e; have := h1.out.head.lt; simp at h; omega
    · injection e with e; subst e; have := Blk.lt h1.out.body; simp at h; omega
  rintro e w2 ⟨rfl, h2, hc2⟩
  have HC2 := Lib.hid ((hc1.out.alloc (.cells #[.int .u8 15] 5)).step hc2.out (by rintro x (rfl | rfl) <;> assumption))
  clear h1 hc1 hc2
  go_wp2_with fail
  refine (Program_calls g p 1 _ 0 _ 1 _ [240] _ (h2.out.calm ((Chg.refl _ _).alloc _)) (Rd.lit _ [_] _) rfl ?_ (by decide)).mono ?_
  · rintro _ ad e (h | h)
    · injection e with e; subst e; have := h2.out.head.lt; simp at h; omega
    · injection e with e; subst e; have := Blk.lt h2.out.body; simp at h; omega
  rintro e w3 ⟨rfl, h3, hc3⟩
  have HC3 := Lib.hid ((HC2.out.alloc (.cells #[.int .u8 240] 5)).step hc3.out (by rintro x (rfl | rfl) <;> assumption))
  clear h2 hc3
  go_wp2_with fail
  refine (Read_yes g p 1 _ 0 _ h3.out (by decide)).mono ?_
  rintro e w4 ⟨A, c, rfl, ho, hc4, _⟩
  have HC4 := Lib.hid (HC3.out.step hc4.out (fun _ h => h.elim))
  have h0 : ((((FS.fresh 1).change 1 0 1 (prD [15])).2.change 1 0 1 (prD [240])).2.page 0)[0]? = some 0 := by decide +kernel
  have h1 : ((((FS.fresh 1).change 1 0 1 (prD [15])).2.change 1 0 1 (prD [240])).2.page 0)[1]? = some 255 := by decide +kernel
  have hl : ((((FS.fresh 1).change 1 0 1 (prD [15])).2.change 1 0 1 (prD [240])).2.page 0).length = 64 := by decide +kernel
  generalize ((((FS.fresh 1).change 1 0 1 (prD [15])).2.change 1 0 1 (prD [240])).2.page 0) = pg at *
  rcases ho.out.form with ⟨_, h, _⟩ | ⟨g4, cur, rfl, _⟩
  · cases h
  obtain ⟨a0, b0, ha0, hx0, hk0⟩ := ho.out.rd.byte (k := 0) (by omega)
  obtain ⟨a1, b1, ha1, hx1, hk1⟩ := ho.out.rd.byte (k := 1) (by omega)
  injection ha0 with ha0
  injection ha1 with ha1
  subst ha0; subst ha1
  rw [h0] at hx0
  rw [h1] at hx1
  injection hx0 with hx0
  injection hx1 with hx1
  subst hx0; subst hx1
  rw [add_row] at hk0 hk1
  have hk0' : w4.cell? ⟨g4, 0, none⟩ = some (.int .u8 0) := hk0
  have hk1' : w4.cell? ⟨g4, 1, none⟩ = some (.int .u8 255) := hk1
  clear hk0 hk1 h0 h1 hl
  go_wp2_with fail
  go_ret
  exact ⟨rfl, HC4⟩
end Go.Proofs.Ytekjahofghmdgaa
