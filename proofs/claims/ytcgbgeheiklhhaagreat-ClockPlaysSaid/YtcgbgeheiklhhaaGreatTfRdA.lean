/- RdA -/
import Derived.Test.YtcgbgeheiklhhaaGreatTfOcW
open Go Go.RowKit
namespace Go.Proofs.YtcgbgeheiklhhaaGreat
/-- what is left, and whether it erred -/
structure RS where
  b : List UInt8
  e : Bool
def RS.bad : RS := ⟨[], true⟩
def RS.ok (s : RS) : Prop := s.e = true → s.b = []
def parse (i acc : Nat) : List UInt8 → Option (Nat × List UInt8)
  | [] => none
  | c :: r =>
    if 9 ≤ i then none
    else if 128 ≤ c.toNat then parse (i + 1) (acc + c.toNat % 128 * 128 ^ i) r
    else if 4611686018427387904 < acc + c.toNat % 128 * 128 ^ i ∨ (c.toNat = 0 ∧ 0 < i) then none
    else some (acc + c.toNat % 128 * 128 ^ i, r)
def RS.num (s : RS) : Nat × RS := if s.e then (0, s) else match parse 0 0 s.b with
  | some (n, r) => (n, ⟨r, false⟩)
  | none => (0, RS.bad)
def RS.raw (s : RS) (n : Int) : List UInt8 × RS := if s.e ∨ n < 0 ∨ (s.b.length : Int) < n then ([], RS.bad) else (s.b.take n.toNat, ⟨s.b.drop n.toNat, false⟩)
def RS.row (s : RS) : List UInt8 × RS := s.num.2.raw s.num.1
theorem RS.ok_bad : RS.bad.ok := fun _ => rfl
theorem RS.eta_bad {s : RS} (h : s.ok) (he : s.e = true) : s = RS.bad := by
  rcases s with ⟨b, e⟩
  obtain rfl : e = true := he
  rw [show b = [] from h rfl]
  rfl
/-- a Reader: its header at block g, its bytes in block d -/
structure RdrAt (w : World) (g d : Nat) (s : RS) : Prop where
  ex : ∃ A n c, n = s.b.length ∧ n ≤ c ∧ Blk w g 100 #[.slice A n c, .bool s.e] ∧ Rd w A (bs s.b) ∧ ∀ ad, A = some ad → s.b ≠ [] → ad.block = d
  ne : d ≠ g
  ok : s.ok
theorem RdrAt.chg {S : Nat → Prop} {w w' : World} {g d : Nat} {s : RS} (h : RdrAt w g d s) (hc : Chg S w w') (hg : ¬ S g) (hd : ¬ S d) : RdrAt w' g d s := by
  obtain ⟨⟨A, n, c, hn, hnc, hb, hr, hA⟩, hne, hok⟩ := h
  refine ⟨⟨A, n, c, hn, hnc, hb.chg hc hg, hr.chg hc (fun hv ad e hs => ?_), hA⟩, hne, hok⟩
  have := hA ad e (by rintro h; rw [h] at hv; exact hv rfl)
  rw [this] at hs
  exact hd hs
theorem RdrAt.chg2 {S : Nat → Prop} {w w' : World} {g d : Nat} {s : RS} (h : RdrAt w g d s) (hc : Chg S w w') (hg : ¬ S g) (hd : s.b ≠ [] → ¬ S d) : RdrAt w' g d s := by
  obtain ⟨⟨A, n, c, hn, hnc, hb, hr, hA⟩, hne, hok⟩ := h
  refine ⟨⟨A, n, c, hn, hnc, hb.chg hc hg, hr.chg hc (fun hv ad e hs => ?_), hA⟩, hne, hok⟩
  have hs0 : s.b ≠ [] := by rintro h; rw [h] at hv; exact hv rfl
  have := hA ad e hs0
  rw [this] at hs
  exact hd hs0 hs
theorem RdrAt.lt {w : World} {g d : Nat} {s : RS} (h : RdrAt w g d s) : g < w.heap.size := by
  obtain ⟨⟨_, _, _, _, _, hb, _⟩, _⟩ := h
  exact hb.lt
theorem Good_calls (g d : Nat) (s : RS) (w : World) (h : RdrAt w g d s) : Calls Tryz.prog 48 #[.pointer (some ⟨g, 0, none⟩)] w fun e w' => e = .returned (.bool (!s.e)) ∧ w' = w := by
  obtain ⟨⟨A, n, c, hn, hnc, hb, _⟩, _⟩ := h
  have hc1 : w.cell? ⟨g, 1, none⟩ = some (.bool s.e) := hb.cell 1
  clear hb hn hnc
  go_enter Tryz.func48, Tryz.ntmps48
  go_wp2
  go_ret
  exact ⟨rfl, rfl⟩
theorem Bad_calls (g d : Nat) (s : RS) (w : World) (h : RdrAt w g d s) : Calls Tryz.prog 72 #[.pointer (some ⟨g, 0, none⟩)] w fun e w' => e = .returned (.tuple #[]) ∧ Hid (RdrAt w' g d RS.bad) ∧ Hid (Chg (fun k => k = g) w w') := by
  obtain ⟨⟨A, n, c, hn, hnc, hb, _⟩, hne, _⟩ := h
  have hc0 : w.cell? ⟨g, 0, none⟩ = some (.slice A n c) := hb.cell 0
  have hc1 : w.cell? ⟨g, 1, none⟩ = some (.bool s.e) := hb.cell 1
  have hf0 : w.frozen? ⟨g, 0, none⟩ = false := hb.frozen 0
  have hf1 : w.frozen? ⟨g, 1, none⟩ = false := hb.frozen 1
  have HP : Hid (RdrAt ((w.setCell ⟨g, 1, none⟩ (.bool true)).setCell ⟨g, 0, none⟩ (.slice none 0 0)) g d RS.bad) := Lib.hid ⟨⟨none, 0, 0, rfl, Nat.le_refl _, (hb.set_ 1 _).set_ 0 _, Rd.nil _ _, fun ad e => by cases e⟩, hne, RS.ok_bad⟩
  have HC : Hid (Chg (fun k => k = g) w ((w.setCell ⟨g, 1, none⟩ (.bool true)).setCell ⟨g, 0, none⟩ (.slice none 0 0))) := Lib.hid (((Chg.refl (fun k => k = g) w).setCell (p := ⟨g, 1, none⟩) (fun _ => rfl) _).setCell (p := ⟨g, 0, none⟩) (fun _ => rfl) _)
  clear hb hn hnc hne
  go_enter Tryz.func72, Tryz.ntmps72
  go_wp2
  go_end0
  exact ⟨rfl, HP, HC⟩
theorem rdr_cut {w : World} {g d : Nat} {A A' : Option Addr} {n c c' k : Nat} {b : List UInt8} (hb : Blk w g 100 #[.slice A n c, .bool false]) (hr : Rd w A (bs b)) (hn : n = b.length) (hnc : n ≤ c) (hkn : k ≤ n)
    (hA : ∀ ad, A = some ad → b ≠ [] → ad.block = d) (hne : d ≠ g) (h : (A' = A ∧ c = k ∧ c' = 0) ∨ (A' = A.map (·.add k) ∧ c' = c - k)) :
    RdrAt (w.setCell ⟨g, 0, none⟩ (.slice A' (n - k) c')) g d ⟨b.drop k, false⟩ := by
  have hne' : b.drop k ≠ [] → b ≠ [] := by rintro h rfl; simp at h
  refine ⟨⟨A', n - k, c', ?_, ?_, hb.set_ 0 _, ?_, ?_⟩, hne, fun h => by cases h⟩
  · simp; omega
  · rcases h with ⟨_, h1, h2⟩ | ⟨_, h1⟩ <;> omega
  · rcases h with ⟨rfl, h1, h2⟩ | ⟨rfl, h1⟩
    · rw [show b.drop k = [] from List.drop_eq_nil_of_le (by omega)]
      exact Rd.nil _ _
    · have h2 : Rd w (A.map (·.add k)) (bs (b.drop k)) := by
        have := hr.drop k
        rwa [show (bs b).drop k = bs (b.drop k) from List.map_drop.symm] at this
      rcases hbn : b.drop k with _ | ⟨x, l⟩
      · exact Rd.nil _ _
      · rw [← hbn]
        refine h2.setCell _ (fun ad e => ?_)
        rcases A with _ | ad0
        · cases e
        · injection e with e
          subst e
          show (ad0.add k).block ≠ g
          rw [block_of_add, hA ad0 rfl (hne' (by rw [hbn]; simp))]
          exact hne
  · intro ad e hbn
    rcases h with ⟨rfl, h1, h2⟩ | ⟨rfl, h1⟩
    · exact hA ad e (hne' hbn)
    · rcases A with _ | ad0
      · cases e
      · injection e with e
        subst e
        show (ad0.add k).block = d
        rw [block_of_add]
        exact hA ad0 rfl (hne' hbn)
theorem NewReader_calls (A : Option Addr) (n c : Nat) (xs : List UInt8) (w : World) (hr : Rd w A (bs xs)) (hn : xs.length = n) (hx : n ≤ 10000000000000) :
    Calls Tryz.prog 25 #[.slice A n c] w fun e w' => ∃ g d, e = .returned (.pointer (some ⟨g, 0, none⟩)) ∧ Hid (RdrAt w' g d ⟨xs, false⟩) ∧ Hid (Chg nowhere w w') ∧ w.heap.size ≤ g ∧ w.heap.size ≤ d := by
  have HR := Lib.hid hr
  have HN := Lib.hid hn
  clear hr hn
  go_enter Tryz.func25, Tryz.ntmps25
  go_wp2_with fail
  refine (Clone_calls A n c xs _ HR.out HN.out hx).mono ?_
  rintro e w1 ⟨A1, c1, rfl, h1, h2, h3⟩
  have hz := h2.out.size
  go_wp2_with fail
  go_ret
  have hs := h2.out.size
  obtain ⟨d, hd, hd2, hd3⟩ : ∃ d, d ≠ w1.heap.size ∧ w.heap.size ≤ d ∧ ∀ ad, A1 = some ad → ad.block = d := by
    rcases A1 with _ | ad
    · exact ⟨w1.heap.size + 1, by omega, by omega, fun ad e => by cases e⟩
    · exact ⟨ad.block, by have := h1.out.lt rfl; omega, h3.out ad rfl, fun ad' e => by injection e with e; rw [e]⟩
  refine ⟨w1.heap.size, d, rfl, ⟨⟨A1, n, c1, HN.out.symm, ?_, Blk.new _ _ _, h1.out.rd.alloc _, fun ad e _ => hd3 ad e⟩, hd, fun h => by cases h⟩, h2.out.alloc _, hs, hd2⟩
  rcases h1.out.form with ⟨_, h4, h5, _⟩ | ⟨_, _, _, _, h4, _⟩ <;> omega
set_option maxRecDepth 100000 in
set_option maxHeartbeats 400000 in
theorem Whole_calls (g d : Nat) (s : RS) (w : World) (h : RdrAt w g d s) (hl : s.b.length ≤ 1000000000000) :
    Calls Tryz.prog 27 #[.pointer (some ⟨g, 0, none⟩)] w fun e w' => e = .returned (.bool (!s.e && decide (s.b = []))) ∧ w' = w := by
  have H := Lib.hid h
  obtain ⟨⟨A, n, c, hn, hnc, hb, _⟩, _⟩ := h
  have hc0 : w.cell? ⟨g, 0, none⟩ = some (.slice A n c) := hb.cell 0
  have HN := Lib.hid hn
  have hn9 : n ≤ 9223372036854775807 := by omega
  clear hb hn hl
  rcases he : s.e with _ | _
  · rcases hb0 : s.b with _ | ⟨x, l⟩
    · have hn0 : n = 0 := by have := HN.out; rw [hb0] at this; simpa using this
      subst hn0
      have he' : (!s.e) = true := by rw [he]; rfl
      clear he hb0
      go_enter Tryz.func27, Tryz.ntmps27
      go_wp2_with fail
      refine (Good_calls g d s _ H.out).mono ?_
      rintro e w2 ⟨rfl, rfl⟩
      go_wp2_with fail
      go_ret
      exact ⟨rfl, rfl⟩
    · have hn0 : ((n : Int) == 0) = false := by have := HN.out; rw [hb0] at this; simp at this; simp; omega
      have he' : (!s.e) = true := by rw [he]; rfl
      clear he hb0
      go_enter Tryz.func27, Tryz.ntmps27
      go_wp2_with fail
      refine (Good_calls g d s _ H.out).mono ?_
      rintro e w2 ⟨rfl, rfl⟩
      go_wp2_with fail
      go_ret
      exact ⟨by simp, rfl⟩
  · have he' : (!s.e) = false := by rw [he]; rfl
    clear he
    go_enter Tryz.func27, Tryz.ntmps27
    go_wp2_with fail
    refine (Good_calls g d s _ H.out).mono ?_
    rintro e w2 ⟨rfl, rfl⟩
    go_wp2_with fail
    go_ret
    exact ⟨by simp, rfl⟩
end Go.Proofs.YtcgbgeheiklhhaaGreat
