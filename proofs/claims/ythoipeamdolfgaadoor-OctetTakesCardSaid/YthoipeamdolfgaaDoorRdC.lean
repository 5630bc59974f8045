/- Reader.Num and Reader.Bytes, told whole. -/
import Derived.Test.YthoipeamdolfgaaDoorRdB
open Go Go.RowKit
namespace Go.Proofs.YthoipeamdolfgaaDoor
theorem Num_calls (g d : Nat) (s : RS) (w : World) (h : RdrAt w g d s) (hl : s.b.length ≤ 1000000000000) :
    Calls Tryd.prog 6 #[.pointer (some ⟨g, 0, none⟩)] w fun e w' => e = .returned (.int .i64 s.num.1) ∧ Hid (RdrAt w' g d s.num.2) ∧ Hid (Chg (fun k => k = g) w w') := by
  rcases he : s.e with _ | _
  · exact Num_good g d s w h he hl
  · have hs := RS.eta_bad h.ok he
    subst hs
    have hnum : RS.bad.num = (0, RS.bad) := rfl
    rw [hnum]
    have H := Lib.hid h
    clear h hnum he
    have hbt : (!RS.bad.e) = false := rfl
    go_enter Tryd.func6, Tryd.ntmps6
    go_wp2_with fail
    refine (Good_calls g d RS.bad _ H.out).mono ?_
    rintro e w2 ⟨rfl, rfl⟩
    go_wp2_with fail
    go_ret
    exact ⟨rfl, H, Chg.refl _ _⟩
theorem RS.num_le (s : RS) : s.num.2.b.length ≤ s.b.length := by
  have key : ∀ (l : List UInt8) i acc n r, parse i acc l = some (n, r) → r.length ≤ l.length := by
    intro l
    induction l with
    | nil => intro i acc n r h; rw [parse] at h; cases h
    | cons b l ih =>
      intro i acc n r h
      rw [parse] at h
      split at h
      · cases h
      · split at h
        · have := ih _ _ _ _ h; simp; omega
        · split at h
          · cases h
          · injection h with h; injection h with h1 h2; subst h2; simp
  unfold RS.num
  split
  · exact Nat.le_refl _
  · split
    · rename_i n r h
      exact key _ _ _ _ _ h
    · simp [RS.bad]
theorem rBytes_calls (g d : Nat) (s : RS) (w : World) (h : RdrAt w g d s) (hl : s.b.length ≤ 1000000000000) :
    Calls Tryd.prog 8 #[.pointer (some ⟨g, 0, none⟩)] w fun e w' => ∃ A n c, e = .returned (.slice A n c) ∧ Hid (n = s.row.1.length) ∧
      Hid (Own w' 5 1 A n c (bs s.row.1)) ∧ Hid (RdrAt w' g d s.row.2) ∧ Hid (Chg (fun k => k = g) w w') ∧ Hid (∀ ad, A = some ad → w.heap.size ≤ ad.block) := by
  have H := Lib.hid h
  have HL := Lib.hid hl
  clear h hl
  go_enter Tryd.func8, Tryd.ntmps8
  go_wp2_with fail
  refine (Num_calls g d s _ H.out HL.out).mono ?_
  rintro e w1 ⟨rfl, h1, h2⟩
  go_wp2_with fail
  refine (Raw_calls g d s.num.2 s.num.1 _ h1.out (Nat.le_trans s.num_le HL.out)).mono ?_
  rintro e w2 ⟨A, n, c, rfl, h3, h4, h5, h6, h7⟩
  go_wp2_with fail
  go_ret
  exact ⟨A, n, c, rfl, h3, h4, h5, h2.out.trans h6.out (fun _ _ h => h), fun ad e => by have h8 := h7.out ad e; have h9 := h2.out.size; omega⟩
end Go.Proofs.YthoipeamdolfgaaDoor
