/- Pg -/
import Derived.Test.YtegdihpnefoolaaTjBase
import Derived.Test.YtegdihpnefoolaaProg
import Derived.StillTailTactics
import Derived.Deep.RegionHeld3
open Go Go.RowKit
namespace Go.Proofs.Ytegdihpnefoolaa
theorem elemB : Elem Try.prog 22 5 1 1 (.int .u8 0) := ⟨Try.underlying22, by kernel_rfl, rfl, by omega⟩
/-- some of a list's places, from o on, hold other ones -/
def patch (xs : List UInt8) (o : Nat) (ys : List UInt8) : List UInt8 := xs.take o ++ ys ++ xs.drop (o + ys.length)
theorem patch_nil (xs : List UInt8) (o : Nat) : patch xs o [] = xs := by simp [patch]
theorem patch_length {xs : List UInt8} {o : Nat} {ys : List UInt8} (h : o + ys.length ≤ xs.length) : (patch xs o ys).length = xs.length := by
  simp [patch]; omega
theorem patch_snoc {xs : List UInt8} {o : Nat} {ys : List UInt8} (v : UInt8) (h : o + ys.length < xs.length) : (patch xs o ys).set (o + ys.length) v = patch xs o (ys ++ [v]) := by
  unfold patch
  have h1 : (xs.take o ++ ys).length = o + ys.length := by simp; omega
  rw [List.set_append_right _ _ (by omega), h1, Nat.sub_self, List.drop_eq_getElem_cons h, sC]
  simp [Nat.add_assoc]
theorem patch_get_behind {xs : List UInt8} {o : Nat} {ys : List UInt8} {i : Nat} (ho : o ≤ xs.length) (h : o + ys.length ≤ i) : (patch xs o ys)[i]? = xs[i]? := by
  unfold patch
  have h1 : (xs.take o ++ ys).length = o + ys.length := by simp; omega
  rw [List.getElem?_append_right (by omega), h1, List.getElem?_drop]
  congr 1
  omega
theorem bs_set (xs : List UInt8) (i : Nat) (v : UInt8) : (bs xs).toArray.setIfInBounds i (u8v v) = (bs (xs.set i v)).toArray := by
  rw [sA]
  congr 1
  exact (List.map_set).symm
/-- a block that holds bytes -/
def BlkB (w : World) (p : Nat) (e : TypeId) (xs : List UInt8) : Prop := Blk w p e (bs xs).toArray
theorem BlkB.cell {w : World} {p : Nat} {e : TypeId} {xs : List UInt8} (h : BlkB w p e xs) {i : Nat} {b : UInt8} (hb : xs[i]? = some b) : w.cell? ⟨p, i, none⟩ = some (.int .u8 b.toNat) := by
  rw [Blk.cell h i]
  simp [bs, hb, u8v]
theorem BlkB.set_ {w : World} {p : Nat} {e : TypeId} {xs : List UInt8} (h : BlkB w p e xs) (i : Nat) (v : UInt8) : BlkB (w.setCell ⟨p, i, none⟩ (u8v v)) p e (xs.set i v) := by
  have h1 := Blk.set_ h i (u8v v)
  rwa [bs_set] at h1
theorem BlkB.rd {w : World} {p : Nat} {e : TypeId} {xs : List UInt8} (h : BlkB w p e xs) (o m : Nat) : Rd w (some ⟨p, o, none⟩) (bs ((xs.drop o).take m)) := fun k u hu => by
  refine ⟨_, rfl, ?_⟩
  have hk : k < m ∧ ∃ b, xs[o + k]? = some b ∧ u = u8v b := by
    unfold bs at hu
    rw [List.getElem?_map, List.getElem?_take] at hu
    split at hu
    · rename_i hkm
      rw [List.getElem?_drop] at hu
      rcases hx : xs[o + k]? with _ | b
      · rw [hx] at hu; cases hu
      · rw [hx] at hu
        exact ⟨hkm, b, rfl, by simpa using hu.symm⟩
    · cases hu
  obtain ⟨_, b, hb, rfl⟩ := hk
  have : (⟨p, o, none⟩ : Addr).add k = ⟨p, o + k, none⟩ := by unfold Addr.add; split <;> simp_all
  rw [this]
  exact h.cell hb
set_option maxRecDepth 100000 in
set_option maxHeartbeats 400000 in
theorem erase_calls (p o n c : Nat) (e : TypeId) (xs : List UInt8) (w : World) (h : BlkB w p e xs) (hn : o + n ≤ xs.length) (hx : n ≤ 1000000000) :
    Calls Try.prog 39 #[.slice (some ⟨p, o, none⟩) n c] w fun en w' => en = .returned (.tuple #[]) ∧ Hid (BlkB w' p e (patch xs o (List.replicate n 255))) ∧ Hid (Chg (fun k => k = p) w w') := by
  have H := Lib.hid h
  have hn9 : n ≤ 9223372036854775807 := by omega
  clear h hx
  go_enter Try.func39, Try.ntmps39
  go_wp2_with fail
  go_loopw [5] (fun t wr => ∃ k : Nat, k ≤ n ∧ t = .int .i64 k ∧ BlkB wr p e (patch xs o (List.replicate k 255)) ∧ Chg (fun k => k = p) w wr) (fun t _ => n - (intOf t).toNat)
  case atStart => exact ⟨0, Nat.zero_le _, rfl, by rw [List.replicate_zero, patch_nil]; exact H.out, Chg.refl _ _⟩
  case round =>
    obtain ⟨k, hk, rfl, hb, hc⟩ := hrel
    by_cases hlt : k < n
    · have e1 : (k : Int) < n := by omega
      obtain ⟨b, hb1⟩ : ∃ b, xs[o + k]? = some b := ⟨xs[o + k], by simp⟩
      have hget : (patch xs o (List.replicate k 255))[o + k]? = some b := by rw [patch_get_behind (by omega) (by simp)]; exact hb1
      have hc0 := hb.cell hget
      have hf0 := Blk.frozen hb (o + k)
      have HB : Hid (BlkB (wr.setCell ⟨p, o + k, none⟩ (.int .u8 255)) p e (patch xs o (List.replicate (k + 1) 255))) := Lib.hid (by
        have h1 := hb.set_ (o + k) 255
        have h2 := patch_snoc (xs := xs) (o := o) (ys := List.replicate k 255) 255 (by simp; omega)
        rw [List.length_replicate] at h2
        rw [h2, ← List.replicate_succ'] at h1
        exact h1)
      have HC : Hid (Chg (fun k => k = p) w (wr.setCell ⟨p, o + k, none⟩ (.int .u8 255))) := Lib.hid (hc.setCell (p := ⟨p, o + k, none⟩) (fun _ => rfl) _)
      clear hb hc hb1 hget
      go_wp2_with fail
      exact ⟨⟨k + 1, by omega, by go_num, HB.out, HC.out⟩, by simp [intOf]; omega⟩
    · have e1 : (n : Int) ≤ k := by omega
      have hkn : k = n := by omega
      subst hkn
      have HB := Lib.hid hb
      have HC := Lib.hid hc
      clear hb hc
      go_wp2_with fail
      go_end0
      exact ⟨rfl, HB, HC⟩
theorem u8_and_eq (a b : UInt8) : bits .and .u8 (a.toNat : Int) (b.toNat : Int) = ((a &&& b).toNat : Int) := by
  have h1 := a.toNat_lt
  have h2 := b.toNat_lt
  rw [u8_and_nat _ _ (by omega) (by omega)]
  simp
/-- bits that fall -/
def fall (xs bs : List UInt8) : List UInt8 := List.zipWith (· &&& ·) xs bs
set_option maxRecDepth 100000 in
set_option maxHeartbeats 800000 in
theorem progFn_calls (p o n c q : Nat) (e : TypeId) (xs ys : List UInt8) (B : Option Addr) (nb cb : Nat) (w : World) (h : BlkB w p e xs) (hn : o + n ≤ xs.length) (hx : n ≤ 1000000000)
    (hq : w.cell? ⟨q, 0, none⟩ = some (.slice B nb cb)) (hy : Rd w B (bs ys)) (hyn : ys.length = nb) (hnb : n ≤ nb) (hqp : q ≠ p) (hBp : Apart (fun k => k = p) B (bs ys)) :
    Calls Try.prog 53 #[.slice (some ⟨p, o, none⟩) n c, .pointer (some ⟨q, 0, none⟩)] w fun en w' => en = .returned (.tuple #[]) ∧
      Hid (BlkB w' p e (patch xs o (fall ((xs.drop o).take n) (ys.take n)))) ∧ Hid (Chg (fun k => k = p) w w') := by
  have H := Lib.hid h
  have hn9 : n ≤ 9223372036854775807 := by omega
  have HY := Lib.hid hy
  have HYN := Lib.hid hyn
  have HBP := Lib.hid hBp
  have HQ := Lib.hid hq
  clear h hx hy hyn hBp hq
  have hfl : ∀ k, k ≤ n → (fall ((xs.drop o).take k) (ys.take k)).length = k := fun k hk => by
    have := HYN.out
    simp [fall]
    omega
  have HFL := Lib.hid hfl
  clear hfl
  go_enter Try.func53, Try.ntmps53
  go_wp2_with fail
  go_loopw [6] (fun t wr => ∃ k : Nat, k ≤ n ∧ t = .int .i64 k ∧ BlkB wr p e (patch xs o (fall ((xs.drop o).take k) (ys.take k))) ∧ Chg (fun k => k = p) w wr) (fun t _ => n - (intOf t).toNat)
  case atStart => exact ⟨0, Nat.zero_le _, rfl, by simp only [List.take_zero, fall, List.zipWith_nil_left]; rw [patch_nil]; exact H.out, Chg.refl _ _⟩
  case round =>
    obtain ⟨k, hk, rfl, hb, hc⟩ := hrel
    by_cases hlt : k < n
    · have e1 : (k : Int) < n := by omega
      have e1' : (k : Int) < nb := by omega
      have e0 : (0 : Int) ≤ k := by omega
      obtain ⟨b, hb1⟩ : ∃ b, xs[o + k]? = some b := ⟨xs[o + k], by simp⟩
      have hyk : k < ys.length := by have := HYN.out; omega
      obtain ⟨ad, y, rfl, hyk', hcy⟩ := (HY.out.chg hc HBP.out).byte hyk
      have hl := HFL.out k hk
      have hget : (patch xs o (fall ((xs.drop o).take k) (ys.take k)))[o + k]? = some b := by rw [patch_get_behind (by omega) (by omega)]; exact hb1
      have hc0 := hb.cell hget
      have hf0 := Blk.frozen hb (o + k)
      have hq0 := hc.cell HQ.out (fun h => hqp h)
      have hsnoc : fall ((xs.drop o).take (k + 1)) (ys.take (k + 1)) = fall ((xs.drop o).take k) (ys.take k) ++ [b &&& y] := by
        have h1 : (xs.drop o)[k]? = some b := by rw [List.getElem?_drop]; exact hb1
        rw [List.take_add_one, List.take_add_one, h1, hyk']
        unfold fall
        rw [show (some b).toList = [b] from rfl, show (some y).toList = [y] from rfl, List.zipWith_append (by simp; have := HYN.out; omega)]
        rfl
      have q1 := u8_and_eq b y
      obtain ⟨v, hv⟩ : ∃ v, v = b &&& y := ⟨_, rfl⟩
      rw [← hv] at q1 hsnoc
      have HB : Hid (∀ j, BlkB ((wr.drewN j).setCell ⟨p, o + k, none⟩ (.int .u8 v.toNat)) p e (patch xs o (fall ((xs.drop o).take (k + 1)) (ys.take (k + 1))))) := Lib.hid (fun j => by
        have h1 := BlkB.set_ (w := wr.drewN j) hb (o + k) v
        have h2 := patch_snoc (xs := xs) (o := o) (ys := fall ((xs.drop o).take k) (ys.take k)) v (by rw [hl]; omega)
        rw [hl] at h2
        rw [h2, ← hsnoc] at h1
        exact h1)
      have HC : Hid (∀ j, Chg (fun k => k = p) w ((wr.drewN j).setCell ⟨p, o + k, none⟩ (.int .u8 v.toNat))) := Lib.hid (fun j => (hc.drewN j).setCell (p := ⟨p, o + k, none⟩) (fun _ => rfl) _)
      clear hb hc hb1 hget hl hsnoc hyk hyk' hv
      go_wp2_with fail
      go_region
      go_wp2_with fail
      exact ⟨⟨k + 1, by omega, by go_num, HB.out 1, HC.out 1⟩, by simp [intOf]; omega⟩
    · have e1 : (n : Int) ≤ k := by omega
      have hkn : k = n := by omega
      subst hkn
      have HB := Lib.hid hb
      have HC := Lib.hid hc
      clear hb hc
      go_wp2_with fail
      go_end0
      exact ⟨rfl, HB, HC⟩
/-- a flash -/
structure FS where
  pages : List UInt8
  dead : Bool
  fused : Bool
  left : Int
  tear : Nat
  cap : Nat
structure FS.ok (s : FS) (N : Nat) : Prop where
  len : s.pages.length = 64 * s.cap
  fit : N ≤ s.cap
  most : N ≤ 256
  tear : s.tear ≤ 64
  left : s.fused = true → 0 ≤ s.left ∧ s.left ≤ 9223372036854775807
def FS.head (s : FS) (p N : Nat) : Array Value := #[.slice (some ⟨p, 0, none⟩) N s.cap, .bool s.dead, .bool s.fused, .int .i64 s.left, .int .i64 s.tear]
structure FlashAt (w : World) (g p N : Nat) (s : FS) : Prop where
  head : Blk w g 73 (s.head p N)
  body : BlkB w p 75 s.pages
  ne : p ≠ g
  ok : s.ok N
theorem FlashAt.chg {S : Nat → Prop} {w w' : World} {g p N : Nat} {s : FS} (h : FlashAt w g p N s) (hc : Chg S w w') (hg : ¬ S g) (hp : ¬ S p) : FlashAt w' g p N s :=
  ⟨h.head.chg hc hg, Blk.chg h.body hc hp, h.ne, h.ok⟩
theorem FlashAt.calm {w w' : World} {g p N : Nat} {s : FS} (h : FlashAt w g p N s) (hc : Chg nowhere w w') : FlashAt w' g p N s := h.chg hc (fun h => h) (fun h => h)
def Two (g p : Nat) : Nat → Prop := fun k => k = g ∨ k = p
theorem FlashAt.cells {w : World} {g p N : Nat} {s : FS} (h : FlashAt w g p N s) : w.cell? ⟨g, 0, none⟩ = some (.slice (some ⟨p, 0, none⟩) N s.cap) ∧ w.cell? ⟨g, 1, none⟩ = some (.bool s.dead) ∧ w.cell? ⟨g, 2, none⟩ = some (.bool s.fused) ∧
    w.cell? ⟨g, 3, none⟩ = some (.int .i64 s.left) ∧ w.cell? ⟨g, 4, none⟩ = some (.int .i64 s.tear) ∧ ∀ i, w.frozen? ⟨g, i, none⟩ = false :=
  ⟨h.head.cell 0, h.head.cell 1, h.head.cell 2, h.head.cell 3, h.head.cell 4, fun i => h.head.frozen i⟩
theorem Len_calls (g p N : Nat) (s : FS) (w : World) (h : FlashAt w g p N s) :
    Calls Try.prog 55 #[.pointer (some ⟨g, 0, none⟩)] w fun e w' => e = .returned (.int .i64 N) ∧ w' = w := by
  obtain ⟨hc0, _⟩ := h.cells
  clear h
  go_enter Try.func55, Try.ntmps55
  go_wp2_with fail
  go_ret
  exact ⟨rfl, rfl⟩
theorem has_no (g p N : Nat) (s : FS) (i : Int) (w : World) (h : FlashAt w g p N s) (hi : i < 0 ∨ (N : Int) ≤ i) :
    Calls Try.prog 49 #[.pointer (some ⟨g, 0, none⟩), .int .i64 i] w fun e w' => e = .returned (.bool false) ∧ w' = w := by
  have H := Lib.hid h
  clear h
  rcases Int.lt_or_le i 0 with h0 | h0
  · clear hi
    go_enter Try.func49, Try.ntmps49
    go_wp2_with fail
    go_ret
    exact ⟨rfl, rfl⟩
  · have h1 : ¬ i < (N : Int) := by omega
    clear hi
    go_enter Try.func49, Try.ntmps49
    go_wp2_with fail
    refine (Len_calls g p N s _ H.out).mono ?_
    rintro e w1 ⟨rfl, rfl⟩
    go_wp2_with fail
    go_ret
    exact ⟨by simp; omega, rfl⟩
theorem has_yes (g p N : Nat) (s : FS) (i : Int) (w : World) (h : FlashAt w g p N s) (h0 : 0 ≤ i) (h1 : i < N) :
    Calls Try.prog 49 #[.pointer (some ⟨g, 0, none⟩), .int .i64 i] w fun e w' => e = .returned (.bool true) ∧ w' = w := by
  have H := Lib.hid h
  clear h
  go_enter Try.func49, Try.ntmps49
  go_wp2_with fail
  refine (Len_calls g p N s _ H.out).mono ?_
  rintro e w1 ⟨rfl, rfl⟩
  go_wp2_with fail
  go_ret
  exact ⟨by simp, rfl⟩
/-- whether the fuse is at its end; if not, it is one shorter -/
def FS.burn (s : FS) : Bool × FS := if s.fused = false then (false, s) else if s.left = 0 then (true, s) else (false, { s with left := s.left - 1 })
theorem FS.burn_ok {s : FS} {N : Nat} (h : s.ok N) : s.burn.2.ok N ∧ s.burn.2.pages = s.pages ∧ s.burn.2.tear = s.tear ∧ s.burn.2.dead = s.dead ∧ s.burn.2.cap = s.cap := by
  unfold FS.burn
  split
  · exact ⟨h, rfl, rfl, rfl, rfl⟩
  · split
    · exact ⟨h, rfl, rfl, rfl, rfl⟩
    · rename_i h1 h2
      refine ⟨⟨h.len, h.fit, h.most, h.tear, fun hf => ?_⟩, rfl, rfl, rfl, rfl⟩
      have h3 := h.left (by simpa using h1)
      show 0 ≤ s.left - 1 ∧ s.left - 1 ≤ _
      omega
theorem burns_calls (g p N : Nat) (s : FS) (w : World) (h : FlashAt w g p N s) :
    Calls Try.prog 75 #[.pointer (some ⟨g, 0, none⟩)] w fun e w' => e = .returned (.bool s.burn.1) ∧ Hid (FlashAt w' g p N s.burn.2) ∧ Hid (Chg (fun k => k = g) w w') := by
  have H := Lib.hid h
  obtain ⟨_, _, hc2, hc3, _, hf⟩ := h.cells
  have hf3 := hf 3
  have hb := FS.burn_ok h.ok
  have hleft := h.ok.left
  clear hf
  rcases hfu : s.fused with _ | _
  · rw [hfu] at hc2
    have hbu : s.burn = (false, s) := by unfold FS.burn; rw [if_pos hfu]
    rw [hbu]
    clear h hb hleft hfu hbu
    go_enter Try.func75, Try.ntmps75
    go_wp2_with fail
    go_ret
    exact ⟨rfl, H, Chg.refl _ _⟩
  · rw [hfu] at hc2
    by_cases hl : s.left = 0
    · have hbu : s.burn = (true, s) := by unfold FS.burn; rw [if_neg (by simp [hfu]), if_pos hl]
      rw [hbu]
      rw [hl] at hc3
      clear h hb hleft hfu hbu hl
      go_enter Try.func75, Try.ntmps75
      go_wp2_with fail
      go_ret
      exact ⟨rfl, H, Chg.refl _ _⟩
    · have hbu : s.burn = (false, { s with left := s.left - 1 }) := by unfold FS.burn; rw [if_neg (by simp [hfu]), if_neg hl]
      rw [hbu] at hb ⊢
      obtain ⟨h1, h2⟩ := hleft hfu
      have hl0 : 1 ≤ s.left := by omega
      have HP : Hid (FlashAt (w.setCell ⟨g, 3, none⟩ (.int .i64 (s.left - 1))) g p N { s with left := s.left - 1 }) := Lib.hid ⟨h.head.set_ 3 _, Blk.far h.body h.ne _, h.ne, hb.1⟩
      clear h hb hleft hfu hbu hl
      generalize s.left = lf at *
      go_enter Try.func75, Try.ntmps75
      go_wp2_with fail
      go_ret
      exact ⟨rfl, HP, Chg.setCell (S := fun k => k = g) (Chg.refl _ _) (p := ⟨g, 3, none⟩) (fun _ => rfl) _⟩
theorem nilB (w : World) (a : Option Addr) (n c n' c' : Nat) : (binOp .eql 22 (.slice a n c) (.slice none n' c')).run Try.prog w = .ok (.bool a.isNone) w :=
  Lib.run_eql_slice_nil w 22 5 a n c n' c' Try.underlying22
attribute [local go_sem] nilB
theorem elem_nil (w : World) : Own (w.alloc (.cells #[] 5)) 5 1 (some ⟨w.heap.size, 0, none⟩) 0 0 (bs []) := Own.new w _ 1 0 #[] (by simp [maxLen]) rfl
set_option maxRecDepth 100000 in
set_option maxHeartbeats 400000 in
theorem sClone_calls (ad : Addr) (n c : Nat) (xs : List UInt8) (w : World) (hr : Rd w (some ad) (bs xs)) (hn : xs.length = n) (hx : n ≤ 10000000000000) :
    Calls Try.prog 50 #[.slice (some ad) n c] w fun e w' => ∃ A' c', e = .returned (.slice A' n c') ∧ Hid (Own w' 5 1 A' n c' (bs xs)) ∧
      Hid (Chg nowhere w w') ∧ Hid (∀ ad, A' = some ad → w.heap.size ≤ ad.block) := by
  have HR := Lib.hid hr
  have HB : Hid (0 + n ≤ lim) := hid_lim (by omega)
  have HM : Hid ((bs xs).length = n) := Lib.hid (by rw [bs_length]; exact hn)
  clear hr hx hn
  go_enter Try.func50, Try.ntmps50
  go_wp2_with (at_builtin; refine wpList_append_many rfl (.tmp 5) (.tmp 6) elemB rfl (Nat.le_refl _) rfl (elem_nil _) rfl (HR.out.alloc _) HM (bs_one xs) HB ?_)
  intro A3 c3 w3 hown3 hchg3 hA3
  have HO := Lib.hid hown3
  have HC : Hid (Chg nowhere w w3) := Lib.hid (((Chg.refl nowhere w).alloc (.cells #[] 5)).trans hchg3 (fun x hx hT => by
    have h' : w.heap.size = x := hT
    omega))
  have HA : Hid (∀ ad, A3 = some ad → w.heap.size ≤ ad.block) := Lib.hid (by
    rintro ad rfl
    rcases hA3 with h | h <;> injection h with h <;> subst h <;> simp)
  clear hown3 hchg3 hA3
  go_wp2
  go_ret
  exact ⟨A3, c3, rfl, HO.out, HC, HA⟩
/-- page number i -/
def FS.page (s : FS) (i : Nat) : List UInt8 := (s.pages.drop (i * 64)).take 64
theorem FS.page_len {s : FS} {N : Nat} (h : s.ok N) {i : Nat} (hi : i < N) : (s.page i).length = 64 := by
  have := h.len
  have := h.fit
  simp [FS.page]
  omega
set_option maxRecDepth 100000 in
set_option maxHeartbeats 400000 in
theorem Read_yes (g p N : Nat) (s : FS) (i : Nat) (w : World) (h : FlashAt w g p N s) (hi : i < N) :
    Calls Try.prog 23 #[.pointer (some ⟨g, 0, none⟩), .int .i64 i] w fun e w' => ∃ A c, e = .returned (.tuple #[.slice A 64 c, .int .i64 0]) ∧ Hid (Own w' 5 1 A 64 c (bs (s.page i))) ∧
      Hid (Chg nowhere w w') ∧ Hid (∀ ad, A = some ad → w.heap.size ≤ ad.block) := by
  have H := Lib.hid h
  obtain ⟨hc0, _⟩ := h.cells
  have hN : N ≤ 256 := h.ok.most
  have hN9 : N ≤ 9223372036854775807 := by omega
  have e1 : (i : Int) < N := by omega
  have e0 : (0 : Int) ≤ i := by omega
  have HRD : Hid (Rd w (some ⟨p, i * 64, none⟩) (bs (s.page i))) := Lib.hid (h.body.rd _ _)
  have HPL := Lib.hid (FS.page_len h.ok hi)
  clear h
  go_enter Try.func23, Try.ntmps23
  go_wp2_with fail
  refine (has_yes g p N s i _ H.out (by omega) (by omega)).mono ?_
  rintro e w1 ⟨rfl, rfl⟩
  go_wp2_with fail
  refine (sClone_calls _ 64 64 (s.page i) _ HRD.out HPL.out (by decide)).mono ?_
  rintro e w2 ⟨A, c, rfl, h1, h2, h3⟩
  go_wp2_with fail
  go_ret2
  exact ⟨A, c, rfl, h1, h2, h3⟩
/-- what is done to so many bytes from a place on -/
abbrev Deed := List UInt8 → Nat → Nat → List UInt8
def erD : Deed := fun xs o m => patch xs o (List.replicate m 255)
def prD (b : List UInt8) : Deed := fun xs o m => patch xs o (fall ((xs.drop o).take m) (b.take m))
theorem erD_len {xs : List UInt8} {o m : Nat} (h : o + m ≤ xs.length) : (erD xs o m).length = xs.length := patch_length (by simpa using h)
theorem prD_len {b xs : List UInt8} {o m : Nat} (h : o + m ≤ xs.length) : (prD b xs o m).length = xs.length := patch_length (by simp [fall]; omega)
def FS.change (N : Nat) (s : FS) (i : Int) (n : Nat) (f : Deed) : Nat × FS :=
  if s.dead = true then (11, s) else if i < 0 ∨ (N : Int) ≤ i ∨ 64 < n then (1, s)
  else if s.burn.1 = true then (11, { s.burn.2 with pages := f s.pages (i.toNat * 64) (min n s.tear), dead := true })
  else (0, { s.burn.2 with pages := f s.pages (i.toNat * 64) n })
end Go.Proofs.Ytegdihpnefoolaa
