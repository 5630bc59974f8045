/- RrA -/
import Derived.Test.YtgjnjhhhbkidbaaGreatUcOcRfC
open Go Go.RowKit
namespace Go.Proofs.YtgjnjhhhbkidbaaGreat
/-- the reference's Reader: its header at block g, its bytes in block d -/
structure RRAt (w : World) (g d : Nat) (s : RS) : Prop where
 ex : ∃ A n c, n = s.b.length ∧ n ≤ c ∧ Blk w g 110 #[.slice A n c, .bool s.e] ∧ Rd w A (bs s.b) ∧ ∀ ad, A = some ad → s.b ≠ [] → ad.block = d
 ne : d ≠ g
 ok : s.ok
theorem RRAt.chg {S : Nat → Prop} {w w' : World} {g d : Nat} {s : RS} (h : RRAt w g d s) (hc : Chg S w w') (hg : ¬ S g) (hd : ¬ S d) : RRAt w' g d s := by
 obtain ⟨⟨A, n, c, hn, hnc, hb, hr, hA⟩, hne, hok⟩ := h
 refine ⟨⟨A, n, c, hn, hnc, hb.chg hc hg, hr.chg hc (fun hv ad e hs => ?_), hA⟩, hne, hok⟩
 have := hA ad e (by rintro h; rw [h] at hv; exact hv rfl)
 rw [this] at hs
 exact hd hs
theorem RRAt.chg2 {S : Nat → Prop} {w w' : World} {g d : Nat} {s : RS} (h : RRAt w g d s) (hc : Chg S w w') (hg : ¬ S g) (hd : s.b ≠ [] → ¬ S d) : RRAt w' g d s := by
 obtain ⟨⟨A, n, c, hn, hnc, hb, hr, hA⟩, hne, hok⟩ := h
 refine ⟨⟨A, n, c, hn, hnc, hb.chg hc hg, hr.chg hc (fun hv ad e hs => ?_), hA⟩, hne, hok⟩
 have hs0 : s.b ≠ [] := by rintro h; rw [h] at hv; exact hv rfl
 have := hA ad e hs0
 rw [this] at hs
 exact hd hs0 hs
theorem RRAt.dlt {w : World} {g d : Nat} {s : RS} (h : RRAt w g d s) (hs : s.b ≠ []) : d < w.heap.size := by
 obtain ⟨⟨A, n, c, hn, hnc, hb, hr, hA⟩, hne, hok⟩ := h
 obtain ⟨ad, e, hl⟩ := hr.lt (by rw [bs_length]; exact List.length_pos_iff.2 hs)
 rw [← hA ad e hs]
 exact hl
theorem RRAt.lt {w : World} {g d : Nat} {s : RS} (h : RRAt w g d s) : g < w.heap.size := by
 obtain ⟨⟨_, _, _, _, _, hb, _⟩, _⟩ := h
 exact hb.lt
theorem rrBad_calls (g d : Nat) (s : RS) (w : World) (h : RRAt w g d s) : Calls Tryz.prog 84 #[.pointer (some ⟨g, 0, none⟩)] w fun e w' => e = .returned (.tuple #[]) ∧ Hid (RRAt w' g d RS.bad) ∧ Hid (Chg (fun k => k = g) w w') := by
 obtain ⟨⟨A, n, c, hn, hnc, hb, _⟩, hne, _⟩ := h
 have hc0 : w.cell? ⟨g, 0, none⟩ = some (.slice A n c) := hb.cell 0
 have hc1 : w.cell? ⟨g, 1, none⟩ = some (.bool s.e) := hb.cell 1
 have hf0 : w.frozen? ⟨g, 0, none⟩ = false := hb.frozen 0
 have hf1 : w.frozen? ⟨g, 1, none⟩ = false := hb.frozen 1
 have HP : Hid (RRAt ((w.setCell ⟨g, 1, none⟩ (.bool true)).setCell ⟨g, 0, none⟩ (.slice none 0 0)) g d RS.bad) := Lib.hid ⟨⟨none, 0, 0, rfl, Nat.le_refl _, (hb.set_ 1 _).set_ 0 _, Rd.nil _ _, fun ad e => by cases e⟩, hne, RS.ok_bad⟩
 have HC : Hid (Chg (fun k => k = g) w ((w.setCell ⟨g, 1, none⟩ (.bool true)).setCell ⟨g, 0, none⟩ (.slice none 0 0))) := Lib.hid (((Chg.refl (fun k => k = g) w).setCell (p := ⟨g, 1, none⟩) (fun _ => rfl) _).setCell (p := ⟨g, 0, none⟩) (fun _ => rfl) _)
 clear hb hn hnc hne
 go_enter Tryz.func84, Tryz.ntmps84
 go_wp2
 go_end0
 exact ⟨rfl, HP, HC⟩
theorem rr_cut {w : World} {g d : Nat} {A A' : Option Addr} {n c c' k : Nat} {b : List UInt8} (hb : Blk w g 110 #[.slice A n c, .bool false]) (hr : Rd w A (bs b)) (hn : n = b.length) (hnc : n ≤ c) (hkn : k ≤ n)
    (hA : ∀ ad, A = some ad → b ≠ [] → ad.block = d) (hne : d ≠ g) (h : (A' = A ∧ c = k ∧ c' = 0) ∨ (A' = A.map (·.add k) ∧ c' = c - k)) :
    RRAt (w.setCell ⟨g, 0, none⟩ (.slice A' (n - k) c')) g d ⟨b.drop k, false⟩ := by
 have hne' : b.drop k ≠ [] → b ≠ [] := by rintro h rfl; simp at h
 refine ⟨⟨A', n - k, c', ?_, ?_, hb.set_ 0 _, ?_, ?_⟩, hne, fun h => by cases h⟩
 · simp; omega
 · rcases h with ⟨_, h1, h2⟩ | ⟨_, h1⟩ <;> omega
 · rcases h with ⟨rfl, h1, h2⟩ | ⟨rfl, h1⟩
   · rw [show b.drop k = [] from List.drop_eq_nil_of_le (by omega)]
     exact Rd.nil _ _
   · have h2 : Rd w (A.map (·.add k)) (bs (b.drop k)) := by
       have := hr.drop k
       rwa [show (bs b).drop k = bs (b.drop k) from List.map_drop.symm] at this
     rcases hbn : b.drop k with _ | ⟨x, l⟩
     · exact Rd.nil _ _
     · rw [← hbn]
       refine h2.setCell _ (fun ad e => ?_)
       rcases A with _ | ad0
       · cases e
       · injection e with e
         subst e
         show (ad0.add k).block ≠ g
         rw [block_of_add, hA ad0 rfl (hne' (by rw [hbn]; simp))]
         exact hne
 · intro ad e hbn
   rcases h with ⟨rfl, h1, h2⟩ | ⟨rfl, h1⟩
   · exact hA ad e (hne' hbn)
   · rcases A with _ | ad0
     · cases e
     · injection e with e
       subst e
       show (ad0.add k).block = d
       rw [block_of_add]
       exact hA ad0 rfl (hne' hbn)
set_option maxRecDepth 100000 in
set_option maxHeartbeats 400000 in
theorem rrRaw_calls (g d : Nat) (s : RS) (i : Int) (w : World) (h : RRAt w g d s) (hl : s.b.length ≤ 140737488351232) :
    Calls Tryz.prog 85 #[.pointer (some ⟨g, 0, none⟩), .int .i64 i] w fun e w' => ∃ A n c, e = .returned (.slice A n c) ∧ Hid (n = (s.raw i).1.length) ∧
     Hid (Own w' 5 1 A n c (bs (s.raw i).1)) ∧ Hid (RRAt w' g d (s.raw i).2) ∧ Hid (Chg (fun k => k = g) w w') ∧ Hid (∀ ad, A = some ad → w.heap.size ≤ ad.block) := by
 have hok := h.ok
 have H := Lib.hid h
 have HL := Lib.hid hl
 have hlen9 : s.b.length ≤ 9223372036854775807 := by omega
 obtain ⟨⟨A, n, c, hn, hnc, hb, hr, hA⟩, hne, _⟩ := h
 have hc0 : w.cell? ⟨g, 0, none⟩ = some (.slice A n c) := hb.cell 0
 have hc1 : w.cell? ⟨g, 1, none⟩ = some (.bool s.e) := hb.cell 1
 have hf0 : w.frozen? ⟨g, 0, none⟩ = false := hb.frozen 0
 have HB := Lib.hid hb
 have HR := Lib.hid hr
 have HN := Lib.hid hn
 have HA := Lib.hid hA
 have hn9 : n ≤ 9223372036854775807 := by omega
 by_cases hneg : i < 0 ∨ (n : Int) < i
 · have hraw : s.raw i = ([], RS.bad) := by
     unfold RS.raw
     rw [if_pos]
     rcases hneg with h | h
     · exact .inr (.inl h)
     · exact .inr (.inr (by omega))
   rw [hraw]
   clear hl hb hr hn hA hraw
   have hq : i < 0 ∨ (¬ i < 0 ∧ (n : Int) < i) := by omega
   clear hneg
   rcases hq with q | ⟨q, q2⟩
   all_goals
    go_enter Tryz.func85, Tryz.ntmps85
    go_wp2_with fail
    refine (rrBad_calls g d s _ H.out).mono ?_
    rintro e w1 ⟨rfl, h1, h2⟩
    have hc2 : w1.cell? ⟨g, 1, none⟩ = some (.bool true) := by
     obtain ⟨⟨_, _, _, _, _, hb1, _⟩, _⟩ := h1.out
     exact hb1.cell 1
    go_wp2_with fail
    go_ret
    exact ⟨none, 0, 0, rfl, rfl, Own.nil _ _ _, h1, h2, fun ad e => by cases e⟩
 · have q1 : ¬ i < 0 := by omega
   have q2 : ¬ (n : Int) < i := by omega
   obtain ⟨k, rfl⟩ := Int.eq_ofNat_of_zero_le (show 0 ≤ i by omega)
   have hkn : k ≤ n := by omega
   by_cases he : s.e = true
   · have hs := RS.eta_bad hok he
     subst hs
     have hraw : RS.bad.raw k = ([], RS.bad) := by unfold RS.raw; rw [if_pos (.inl rfl)]
     rw [hraw]
     have hc2 : w.cell? ⟨g, 1, none⟩ = some (.bool true) := hc1
     clear hraw hl hb hr hn hA hneg he hc1
     go_enter Tryz.func85, Tryz.ntmps85
     go_wp2_with fail
     go_ret
     exact ⟨none, 0, 0, rfl, rfl, Own.nil _ _ _, H, Chg.refl _ _, fun ad e => by cases e⟩
   · have he' : s.e = false := by simpa using he
     have hraw : s.raw k = (s.b.take k, ⟨s.b.drop k, false⟩) := by unfold RS.raw; rw [if_neg (fun h => h.elim he (fun h => h.elim q1 (fun h => by omega)))]; simp
     rw [hraw]
     have HRD : Hid (Rd w A (bs (s.b.take k))) := Lib.hid (by rw [← bs_take]; exact hr.take k)
     have hkc : k ≤ c := by omega
     have HB0 : Hid (0 + k ≤ lim) := hid_lim (by omega)
     have HM : Hid ((bs (s.b.take k)).length = k) := Lib.hid (by rw [bs_length, List.length_take]; omega)
     rw [he'] at hc1 hb
     have HBF := Lib.hid hb
     have HG := Lib.hid hb.lt
     have hca : ∀ o, (w.alloc o).cell? ⟨g, 0, none⟩ = some (.slice A n c) := fun o => (hb.alloc o).cell 0
     clear hraw hl hb hr hn hA hneg he he' HB
     go_enter Tryz.func85, Tryz.ntmps85
     go_wp2_with (at_builtin; refine wpList_append_many rfl (.tmp 23) (.tmp 29) elemB rfl (Nat.le_refl _) rfl (elem_nil _) rfl (HRD.out.alloc _) HM (bs_one _) HB0 ?_)
     intro A3 c3 w3 hown3 hchg3 hA3
     have HO := Lib.hid hown3
     have HC : Hid (Chg nowhere w w3) := Lib.hid (((Chg.refl nowhere w).alloc (.cells #[] 5)).trans hchg3 (fun x hx hT => by
      first | omega | (simp at hT; omega) | (obtain ⟨ad, e, h⟩ := hT; injection e with e; subst e; simp at h; omega)))
     have HA3 : Hid (∀ ad, A3 = some ad → w.heap.size ≤ ad.block) := Lib.hid (by
      rintro ad rfl
      rcases hA3 with h | h <;> injection h with h <;> subst h <;> simp)
     clear hown3 hchg3 hA3
     have hb3 := HBF.out.chg HC.out (fun h => h)
     have hc3 : w3.cell? ⟨g, 0, none⟩ = some (.slice A n c) := hb3.cell 0
     have hf3 : w3.frozen? ⟨g, 0, none⟩ = false := hb3.frozen 0
     have HCUT := Lib.hid (fun A' c' => rr_cut (A' := A') (c' := c') hb3 (HR.out.later HC.out) HN.out hnc hkn HA.out hne)
     clear hb3 hc0 hc1 hf0 hca
     go_wp2_with fail
     all_goals go_ret
     all_goals
      refine ⟨A3, k, c3, rfl, ?_, ?_, HCUT.out _ _ ?_, Chg.setCell (S := fun k => k = g) (HC.out.mono (fun _ _ h => h.elim)) (p := ⟨g, 0, none⟩) (fun _ => rfl) _, HA3⟩
      · refine Lib.hid ?_
        have := HN.out
        omega
      · have h1 := HO.out
        simp only [bs_append, List.nil_append] at h1
        refine h1.far (fun ad e => ?_) _
        have h4 := HA3.out ad e
        have h5 := HG.out
        show ad.block ≠ g
        omega
      · first | exact .inl ⟨rfl, by omega, rfl⟩ | exact .inr ⟨rfl, rfl⟩
end Go.Proofs.YtgjnjhhhbkidbaaGreat
