/- RdA -/
import Derived.Test.YtmnapacibpnodaaGreatUeOcRfC
open Go Go.RowKit
namespace Go.Proofs.YtmnapacibpnodaaGreat
/-- what is left, and whether it erred -/
structure RS where
  b : List UInt8
  e : Bool
def RS.bad : RS := ⟨[], true⟩
def RS.ok (s : RS) : Prop := s.e = true → s.b = []
def parse (i acc : Nat) : List UInt8 → Option (Nat × List UInt8)
  | [] => none
  | c :: r =>
    if 9 ≤ i then none
    else if 128 ≤ c.toNat then parse (i + 1) (acc + c.toNat % 128 * 128 ^ i) r
    else if 4611686018427387904 < acc + c.toNat % 128 * 128 ^ i ∨ (c.toNat = 0 ∧ 0 < i) then none
    else some (acc + c.toNat % 128 * 128 ^ i, r)
def RS.num (s : RS) : Nat × RS := if s.e then (0, s) else match parse 0 0 s.b with
  | some (n, r) => (n, ⟨r, false⟩)
  | none => (0, RS.bad)
def RS.raw (s : RS) (n : Int) : List UInt8 × RS := if s.e ∨ n < 0 ∨ (s.b.length : Int) < n then ([], RS.bad) else (s.b.take n.toNat, ⟨s.b.drop n.toNat, false⟩)
def RS.row (s : RS) : List UInt8 × RS := s.num.2.raw s.num.1
theorem RS.ok_bad : RS.bad.ok := fun _ => rfl
theorem RS.eta_bad {s : RS} (h : s.ok) (he : s.e = true) : s = RS.bad := by
  rcases s with ⟨b, e⟩
  obtain rfl : e = true := he
  rw [show b = [] from h rfl]
  rfl
/-- a Reader: its header at block g, its bytes in block d -/
structure RdrAt (w : World) (g d : Nat) (s : RS) : Prop where
  ex : ∃ A n c, n = s.b.length ∧ n ≤ c ∧ Blk w g 158 #[.slice A n c, .bool s.e] ∧ Rd w A (bs s.b) ∧ ∀ ad, A = some ad → s.b ≠ [] → ad.block = d
  ne : d ≠ g
  ok : s.ok
theorem RdrAt.chg {S : Nat → Prop} {w w' : World} {g d : Nat} {s : RS} (h : RdrAt w g d s) (hc : Chg S w w') (hg : ¬ S g) (hd : ¬ S d) : RdrAt w' g d s := by
  obtain ⟨⟨A, n, c, hn, hnc, hb, hr, hA⟩, hne, hok⟩ := h
  refine ⟨⟨A, n, c, hn, hnc, hb.chg hc hg, hr.chg hc (fun hv ad e hs => ?_), hA⟩, hne, hok⟩
  have := hA ad e (by rintro h; rw [h] at hv; exact hv rfl)
  rw [this] at hs
  exact hd hs
theorem RdrAt.chg2 {S : Nat → Prop} {w w' : World} {g d : Nat} {s : RS} (h : RdrAt w g d s) (hc : Chg S w w') (hg : ¬ S g) (hd : s.b ≠ [] → ¬ S d) : RdrAt w' g d s := by
  obtain ⟨⟨A, n, c, hn, hnc, hb, hr, hA⟩, hne, hok⟩ := h
  refine ⟨⟨A, n, c, hn, hnc, hb.chg hc hg, hr.chg hc (fun hv ad e hs => ?_), hA⟩, hne, hok⟩
  have hs0 : s.b ≠ [] := by rintro h; rw [h] at hv; exact hv rfl
  have := hA ad e hs0
  rw [this] at hs
  exact hd hs0 hs
theorem RdrAt.dlt {w : World} {g d : Nat} {s : RS} (h : RdrAt w g d s) (hs : s.b ≠ []) : d < w.heap.size := by
  obtain ⟨⟨A, n, c, hn, hnc, hb, hr, hA⟩, hne, hok⟩ := h
  obtain ⟨ad, e, hl⟩ := hr.lt (by rw [bs_length]; exact List.length_pos_iff.2 hs)
  rw [← hA ad e hs]
  exact hl
theorem RdrAt.lt {w : World} {g d : Nat} {s : RS} (h : RdrAt w g d s) : g < w.heap.size := by
  obtain ⟨⟨_, _, _, _, _, hb, _⟩, _⟩ := h
  exact hb.lt
theorem Good_calls (g d : Nat) (s : RS) (w : World) (h : RdrAt w g d s) : Calls Tryz.prog 90 #[.pointer (some ⟨g, 0, none⟩)] w fun e w' => e = .returned (.bool (!s.e)) ∧ w' = w := by
  obtain ⟨⟨A, n, c, hn, hnc, hb, _⟩, _⟩ := h
  have hc1 : w.cell? ⟨g, 1, none⟩ = some (.bool s.e) := hb.cell 1
  clear hb hn hnc
  go_enter Tryz.func90, Tryz.ntmps90
  go_wp2
  go_ret
  exact ⟨rfl, rfl⟩
theorem Left_calls (g d : Nat) (s : RS) (w : World) (h : RdrAt w g d s) : Calls Tryz.prog 115 #[.pointer (some ⟨g, 0, none⟩)] w fun e w' => e = .returned (.int .i64 s.b.length) ∧ w' = w := by
  obtain ⟨⟨A, n, c, hn, hnc, hb, _⟩, _⟩ := h
  have hc1 : w.cell? ⟨g, 0, none⟩ = some (.slice A n c) := hb.cell 0
  clear hb hnc
  have HN := Lib.hid hn
  clear hn
  go_enter Tryz.func115, Tryz.ntmps115
  go_wp2
  go_ret
  exact ⟨by rw [← HN.out]; rfl, rfl⟩
theorem Bad_calls (g d : Nat) (s : RS) (w : World) (h : RdrAt w g d s) : Calls Tryz.prog 66 #[.pointer (some ⟨g, 0, none⟩)] w fun e w' => e = .returned (.tuple #[]) ∧ Hid (RdrAt w' g d RS.bad) ∧ Hid (Chg (fun k => k = g) w w') := by
  obtain ⟨⟨A, n, c, hn, hnc, hb, _⟩, hne, _⟩ := h
  have hc0 : w.cell? ⟨g, 0, none⟩ = some (.slice A n c) := hb.cell 0
  have hc1 : w.cell? ⟨g, 1, none⟩ = some (.bool s.e) := hb.cell 1
  have hf0 : w.frozen? ⟨g, 0, none⟩ = false := hb.frozen 0
  have hf1 : w.frozen? ⟨g, 1, none⟩ = false := hb.frozen 1
  have HP : Hid (RdrAt ((w.setCell ⟨g, 1, none⟩ (.bool true)).setCell ⟨g, 0, none⟩ (.slice none 0 0)) g d RS.bad) := Lib.hid ⟨⟨none, 0, 0, rfl, Nat.le_refl _, (hb.set_ 1 _).set_ 0 _, Rd.nil _ _, fun ad e => by cases e⟩, hne, RS.ok_bad⟩
  have HC : Hid (Chg (fun k => k = g) w ((w.setCell ⟨g, 1, none⟩ (.bool true)).setCell ⟨g, 0, none⟩ (.slice none 0 0))) := Lib.hid (((Chg.refl (fun k => k = g) w).setCell (p := ⟨g, 1, none⟩) (fun _ => rfl) _).setCell (p := ⟨g, 0, none⟩) (fun _ => rfl) _)
  clear hb hn hnc hne
  go_enter Tryz.func66, Tryz.ntmps66
  go_wp2
  go_end0
  exact ⟨rfl, HP, HC⟩
theorem rdr_cut {w : World} {g d : Nat} {A A' : Option Addr} {n c c' k : Nat} {b : List UInt8} (hb : Blk w g 158 #[.slice A n c, .bool false]) (hr : Rd w A (bs b)) (hn : n = b.length) (hnc : n ≤ c) (hkn : k ≤ n)
    (hA : ∀ ad, A = some ad → b ≠ [] → ad.block = d) (hne : d ≠ g) (h : (A' = A ∧ c = k ∧ c' = 0) ∨ (A' = A.map (·.add k) ∧ c' = c - k)) :
    RdrAt (w.setCell ⟨g, 0, none⟩ (.slice A' (n - k) c')) g d ⟨b.drop k, false⟩ := by
  have hne' : b.drop k ≠ [] → b ≠ [] := by rintro h rfl; simp at h
  refine ⟨⟨A', n - k, c', ?_, ?_, hb.set_ 0 _, ?_, ?_⟩, hne, fun h => by cases h⟩
  · simp; omega
  · rcases h with ⟨_, h1, h2⟩ | ⟨_, h1⟩ <;> omega
  · rcases h with ⟨rfl, h1, h2⟩ | ⟨rfl, h1⟩
    · rw [show b.drop k = [] from List.drop_eq_nil_of_le (by omega)]
      exact Rd.nil _ _
    · have h2 : Rd w (A.map (·.add k)) (bs (b.drop k)) := by
        have := hr.drop k
        rwa [show (bs b).drop k = bs (b.drop k) from List.map_drop.symm] at this
      rcases hbn : b.drop k with _ | ⟨x, l⟩
      · exact Rd.nil _ _
      · rw [← hbn]
        refine h2.setCell _ (fun ad e => ?_)
        rcases A with _ | ad0
        · cases e
        · injection e with e
          subst e
          show (ad0.add k).block ≠ g
          rw [block_of_add, hA ad0 rfl (hne' (by rw [hbn]; simp))]
          exact hne
  · intro ad e hbn
    rcases h with ⟨rfl, h1, h2⟩ | ⟨rfl, h1⟩
    · exact hA ad e (hne' hbn)
    · rcases A with _ | ad0
      · cases e
      · injection e with e
        subst e
        show (ad0.add k).block = d
        rw [block_of_add]
        exact hA ad0 rfl (hne' hbn)
set_option maxRecDepth 100000 in
set_option maxHeartbeats 400000 in
theorem Raw_calls (g d : Nat) (s : RS) (i : Int) (w : World) (h : RdrAt w g d s) (hl : s.b.length ≤ 140737488351232) :
    Calls Tryz.prog 92 #[.pointer (some ⟨g, 0, none⟩), .int .i64 i] w fun e w' => ∃ A n c, e = .returned (.slice A n c) ∧ Hid (n = (s.raw i).1.length) ∧
      Hid (Own w' 5 1 A n c (bs (s.raw i).1)) ∧ Hid (RdrAt w' g d (s.raw i).2) ∧ Hid (Chg (fun k => k = g) w w') ∧ Hid (∀ ad, A = some ad → w.heap.size ≤ ad.block) := by
  have hgt : Hid (Own w 5 1 none 0 0 (bs [])) := Lib.hid (Own.nil _ _ _)
  have hok := h.ok
  have H := Lib.hid h
  have HL := Lib.hid hl
  have hlen9 : s.b.length ≤ 9223372036854775807 := by omega
  clear hl
  by_cases hneg : i < 0
  · have hraw : s.raw i = ([], RS.bad) := by unfold RS.raw; rw [if_pos (.inr (.inl hneg))]
    rw [hraw]
    have HR := Lib.hid hraw
    clear hraw h
    go_enter Tryz.func92, Tryz.ntmps92
    go_wp2_with fail
    refine (Bad_calls g d s _ H.out).mono ?_
    rintro e w1 ⟨rfl, h1, h2⟩
    go_wp2_with fail
    refine (Good_calls g d RS.bad _ h1.out).mono ?_
    rintro e w2 ⟨rfl, rfl⟩
    have hbt : (!RS.bad.e) = false := rfl
    go_wp2_with fail
    go_ret
    exact ⟨none, 0, 0, rfl, rfl, Own.nil _ _ _, h1, h2, fun ad e => by cases e⟩
  · by_cases hbig : (s.b.length : Int) < i
    · have hraw : s.raw i = ([], RS.bad) := by unfold RS.raw; rw [if_pos (.inr (.inr hbig))]
      rw [hraw]
      have HR := Lib.hid hraw
      clear hraw h
      go_enter Tryz.func92, Tryz.ntmps92
      go_wp2_with fail
      refine (Left_calls g d s _ H.out).mono ?_
      rintro e w1 ⟨rfl, rfl⟩
      go_wp2_with fail
      refine (Bad_calls g d s _ H.out).mono ?_
      rintro e w1 ⟨rfl, h1, h2⟩
      go_wp2_with fail
      refine (Good_calls g d RS.bad _ h1.out).mono ?_
      rintro e w2 ⟨rfl, rfl⟩
      have hbt : (!RS.bad.e) = false := rfl
      go_wp2_with fail
      go_ret
      exact ⟨none, 0, 0, rfl, rfl, Own.nil _ _ _, h1, h2, fun ad e => by cases e⟩
    · obtain ⟨k, rfl⟩ := Int.eq_ofNat_of_zero_le (show 0 ≤ i by omega)
      by_cases he : s.e = true
      · have hs := RS.eta_bad hok he
        subst hs
        have hraw : RS.bad.raw k = ([], RS.bad) := by unfold RS.raw; rw [if_pos (.inl rfl)]
        rw [hraw]
        clear hraw h
        go_enter Tryz.func92, Tryz.ntmps92
        go_wp2_with fail
        refine (Left_calls g d RS.bad _ H.out).mono ?_
        rintro e w1 ⟨rfl, rfl⟩
        go_wp2_with fail
        refine (Good_calls g d RS.bad _ H.out).mono ?_
        rintro e w2 ⟨rfl, rfl⟩
        have hbt : (!RS.bad.e) = false := rfl
        go_wp2_with fail
        go_ret
        exact ⟨none, 0, 0, rfl, rfl, Own.nil _ _ _, H, Chg.refl _ _, fun ad e => by cases e⟩
      · have he' : s.e = false := by simpa using he
        have hraw : s.raw k = (s.b.take k, ⟨s.b.drop k, false⟩) := by unfold RS.raw; rw [if_neg (fun h => h.elim he (fun h => h.elim hneg hbig))]; simp
        obtain ⟨⟨A, n, c, hn, hnc, hb, hr, hA⟩, hne, _⟩ := h
        have hkn : k ≤ n := by omega
        have hc0 : w.cell? ⟨g, 0, none⟩ = some (.slice A n c) := hb.cell 0
        have hf0 : w.frozen? ⟨g, 0, none⟩ = false := hb.frozen 0
        rw [hraw]
        have HRD : Hid (Rd w A (bs (s.b.take k))) := Lib.hid (by rw [← bs_take]; exact hr.take k)
        have HB := Lib.hid hb
        have HR := Lib.hid hr
        have HN := Lib.hid hn
        have HA := Lib.hid hA
        have hkc : k ≤ c := by omega
        clear hraw hb hr hn he
        go_enter Tryz.func92, Tryz.ntmps92
        go_wp2_with fail
        refine (Left_calls g d s _ H.out).mono ?_
        rintro e w1 ⟨rfl, rfl⟩
        go_wp2_with fail
        refine (Good_calls g d s _ H.out).mono ?_
        rintro e w2 ⟨rfl, rfl⟩
        have hbt : (!s.e) = true := by rw [he']; rfl
        go_wp2_with fail
        refine (Clone_calls A k c (s.b.take k) _ HRD.out (by rw [List.length_take]; omega) (by have := HL.out; omega)).mono ?_
        rintro e w3 ⟨A3, c3, rfl, h1, h2, h3⟩
        have hb3 := HB.out.chg h2.out (fun h => h)
        have hc3 : w3.cell? ⟨g, 0, none⟩ = some (.slice A n c) := hb3.cell 0
        have hf3 : w3.frozen? ⟨g, 0, none⟩ = false := hb3.frozen 0
        rw [he'] at hb3
        have HCUT := Lib.hid (fun A' c' => rdr_cut (A' := A') (c' := c') hb3 (HR.out.later h2.out) HN.out hnc hkn HA.out hne)
        have hglt := hb3.lt
        have HG := Lib.hid (HB.out.lt)
        clear hb3 hc0 hf0 hglt
        go_wp2_with fail
        all_goals go_ret
        all_goals
          refine ⟨A3, k, c3, rfl, ?_, h1.out.far (fun ad e => ?_) _, HCUT.out _ _ ?_, Chg.setCell (S := fun k => k = g) (h2.out.mono (fun _ _ h => h.elim)) (p := ⟨g, 0, none⟩) (fun _ => rfl) _, h3⟩
          · show k = min k s.b.length
            have := HN.out
            omega
          · have h4 := h3.out ad e
            have h5 := HG.out
            show ad.block ≠ g
            omega
          · first | exact .inl ⟨rfl, by omega, rfl⟩ | exact .inr ⟨rfl, rfl⟩
theorem NewReader_calls (A : Option Addr) (n c : Nat) (xs : List UInt8) (w : World) (hr : Rd w A (bs xs)) (hn : xs.length = n) (hx : n ≤ 140737488351232) :
    Calls Tryz.prog 64 #[.slice A n c] w fun e w' => ∃ g d, e = .returned (.pointer (some ⟨g, 0, none⟩)) ∧ Hid (RdrAt w' g d ⟨xs, false⟩) ∧ Hid (Chg nowhere w w') ∧ w.heap.size ≤ g ∧ w.heap.size ≤ d := by
  have HR := Lib.hid hr
  have HN := Lib.hid hn
  clear hr hn
  go_enter Tryz.func64, Tryz.ntmps64
  go_wp2_with fail
  refine (Clone_calls A n c xs _ HR.out HN.out hx).mono ?_
  rintro e w1 ⟨A1, c1, rfl, h1, h2, h3⟩
  have hz := h2.out.size
  go_wp2_with fail
  go_ret
  have hs := h2.out.size
  obtain ⟨d, hd, hd2, hd3⟩ : ∃ d, d ≠ w1.heap.size ∧ w.heap.size ≤ d ∧ ∀ ad, A1 = some ad → ad.block = d := by
    rcases A1 with _ | ad
    · exact ⟨w1.heap.size + 1, by omega, by omega, fun ad e => by cases e⟩
    · exact ⟨ad.block, by have := h1.out.lt rfl; omega, h3.out ad rfl, fun ad' e => by injection e with e; rw [e]⟩
  refine ⟨w1.heap.size, d, rfl, ⟨⟨A1, n, c1, HN.out.symm, ?_, Blk.new _ _ _, h1.out.rd.alloc _, fun ad e _ => hd3 ad e⟩, hd, fun h => by cases h⟩, h2.out.alloc _, hs, hd2⟩
  rcases h1.out.form with ⟨_, h4, h5, _⟩ | ⟨_, _, _, _, h4, _⟩ <;> omega
set_option maxRecDepth 100000 in
set_option maxHeartbeats 400000 in
theorem Whole_calls (g d : Nat) (s : RS) (w : World) (h : RdrAt w g d s) (hl : s.b.length ≤ 140737488351232) :
    Calls Tryz.prog 67 #[.pointer (some ⟨g, 0, none⟩)] w fun e w' => e = .returned (.bool (!s.e && decide (s.b = []))) ∧ w' = w := by
  have H := Lib.hid h
  obtain ⟨⟨A, n, c, hn, hnc, hb, _⟩, _⟩ := h
  have hc0 : w.cell? ⟨g, 0, none⟩ = some (.slice A n c) := hb.cell 0
  have HN := Lib.hid hn
  have hn9 : n ≤ 9223372036854775807 := by omega
  clear hb hn hl
  rcases he : s.e with _ | _
  · rcases hb0 : s.b with _ | ⟨x, l⟩
    · have hn0 : n = 0 := by have := HN.out; rw [hb0] at this; simpa using this
      subst hn0
      have he' : (!s.e) = true := by rw [he]; rfl
      clear he hb0
      go_enter Tryz.func67, Tryz.ntmps67
      go_wp2_with fail
      refine (Good_calls g d s _ H.out).mono ?_
      rintro e w2 ⟨rfl, rfl⟩
      go_wp2_with fail
      go_ret
      exact ⟨rfl, rfl⟩
    · have hn0 : ((n : Int) == 0) = false := by have := HN.out; rw [hb0] at this; simp at this; simp; omega
      have he' : (!s.e) = true := by rw [he]; rfl
      clear he hb0
      go_enter Tryz.func67, Tryz.ntmps67
      go_wp2_with fail
      refine (Good_calls g d s _ H.out).mono ?_
      rintro e w2 ⟨rfl, rfl⟩
      go_wp2_with fail
      go_ret
      exact ⟨by simp, rfl⟩
  · have he' : (!s.e) = false := by rw [he]; rfl
    clear he
    go_enter Tryz.func67, Tryz.ntmps67
    go_wp2_with fail
    refine (Good_calls g d s _ H.out).mono ?_
    rintro e w2 ⟨rfl, rfl⟩
    go_wp2_with fail
    go_ret
    exact ⟨by simp, rfl⟩
end Go.Proofs.YtmnapacibpnodaaGreat
